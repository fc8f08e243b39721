import Derived.Test.YtnjnpbabgefaeaaGreatKp11
import Derived.Test.YtnjnpbabgefaeaaGreatKp10
import Derived.Test.YtnjnpbabgefaeaaGreatKp15
import Derived.Laws.AppendOwn
import Derived.Deep.AppendLies
import Derived.Test.YtnjnpbabgefaeaaGreatKpH
set_option maxRecDepth 100000
set_option maxHeartbeats 8000000
set_option linter.unusedVariables false
set_option linter.unusedSimpArgs false
section
namespace Go.Proofs.YtnjnpbabgefaeaaGreat
open Go.RowKit
namespace Ev
def pairGo (xs:List R) (e:R):Nat→Int
 | 0=>-1
 | a+1=>if (nth xs a).h≠e.h then -1 else if ((nth xs a).z&&(nth xs a).k==2)=true then -1 else if (nth xs a).z=true then (if (nth xs a).a=e.a then (a:Int) else -1) else pairGo xs e a
def paired (x:X) (b:Nat):Int:=if ((nth x.ev b).k != 2||!(nth x.ev b).z)=true then -1 else pairGo x.ev (nth x.ev b) b
end Ev
theorem rpaired_any (x:Ev.X) (b:Nat) (hb:b < x.ev.length) (w:World) (hin:Ev.XIn w x) :
 Calls Tryz.prog 38 #[Ev.exV x,.int .i64 (b:Int)] w fun e w'=>e=.returned (.int .i64 (Ev.paired x b))∧Below w.heap.size w w':=by
 have hl1:=hin.ev.le;have hl2:=hin.ev.max
 obtain⟨B,hB⟩:∃ B,B=w.alloc (Obj.cells (Ev.xcells x).toArray 26):=⟨_,rfl⟩
 have HB:=qH hB
 have B0:=qH (show Below w.heap.size w B by rw [hB];exact(Below.refl w.heap.size w).alloc (Nat.le_refl _) _)
 have HX:=qH (show Ev.XIn B x from hin.kp (Ev.kp_below B0.out))
 have RX:=qH (show B.heap[w.heap.size]?=some (.cells (Ev.xcells x).toArray 26 (0,0)) by rw [hB];exact heap_alloc_new _ _)
 obtain⟨e,he⟩:∃ e,x.ev[b]?=some e:=⟨_,List.getElem?_eq_getElem hb⟩
 obtain⟨g,o,eg,hce⟩:=HX.out.ev.at_ he
 have HE:=qH (Ev.nth_some he)
 have HEG:=qH eg;have HCE:=qH hce
 have hbi:(b:Int) < (x.ev.length:Int):=by omega
 have CX:=qH (show ∀ W,Below B.heap.size B W→W.cell? ⟨w.heap.size,0,none⟩=some (.slice (some ⟨g,o,none⟩) x.ev.length x.ce) from fun W h=>by
  rw [← eg];exact Ev.xcell0 ((h.block w.heap.size (qL RX.out)).trans RX.out))
 have cx:=CX.out B (Below.refl _ _)
 clear hin hB he eg hce
 have HP:=qH (show Ev.paired x b=if (e.k != 2||!e.z)=true then -1 else Ev.pairGo x.ev e b by unfold Ev.paired;rw [HE.out])
 obtain⟨ez,hez⟩:∃ z,e.z=z:=⟨_,rfl⟩
 have HEZ:=qH hez
 clear hez
 unfold Ev.exV Ev.xcells
 by_cases hk:e.k=2
 case neg =>
  have tk:(e.k != 2)=true:=by simpa using hk
  have HF:=qH (show Ev.paired x b=-1 by rw [HP.out,tk];rfl)
  clear hk
  go_enter Tryz.func38,Tryz.ntmps38
  go_wp2_with (first
   | ((with_reducible refine qG 8 ?_);rw [show w.alloc (Obj.cells #[Value.slice x.ae x.ev.length x.ce,Value.slice x.fr.a x.fr.l.length x.fr.c,Value.slice x.ao x.od.length x.co] 26)=B from HB.out.symm])
   | ((with_reducible refine qG 12 ?_);refine wpList_load_at rfl 48 (.tmp 11) rfl g (o+b * 13) (by kernel_rfl) (Ev.cells e) _ HCE.out Tryz.underlying48 rfl (by kernel_rfl) ?_)
   | ((with_reducible show wpList _ _ _ (Oper.mk none (Op.store 48 (Operand.tmp 5) _) _ _ _ _ :: _) _ _);refine wpList_store_own rfl 48 (.tmp 5) (.tmp 12) rfl B.heap.size (Ev.cells e).toArray rfl rfl 48 (Ev.cells Ev.R0).toArray (heap_alloc_new _ _) (by kernel_rfl) (by kernel_rfl) (by kernel_rfl) ?_
      intro W2 HW
      have B2:=qH (((Below.refl B.heap.size B).alloc (Nat.le_refl _) _).trans HW.below)
      have RE:=qH HW.row
      have cek:W2.cell? ⟨B.heap.size,1,none⟩=some (.int .i64 e.k):=by rw [qC HW.row];rfl
      have cez:W2.cell? ⟨B.heap.size,9,none⟩=some (.bool ez):=by rw [qC HW.row,← HEZ.out];rfl
      clear HW))
  go_ret
  exact⟨by rw [HF.out];try rfl,B0.out.trans (B2.out.mono B0.out.size)⟩
 have tk:(e.k != 2)=false:=by simp [hk]
 clear hk
 cases ez
 ·have HF:=qH (show Ev.paired x b=-1 by rw [HP.out,HEZ.out];simp)
  go_enter Tryz.func38,Tryz.ntmps38
  go_wp2_with (first
   | ((with_reducible refine qG 8 ?_);rw [show w.alloc (Obj.cells #[Value.slice x.ae x.ev.length x.ce,Value.slice x.fr.a x.fr.l.length x.fr.c,Value.slice x.ao x.od.length x.co] 26)=B from HB.out.symm])
   | ((with_reducible refine qG 12 ?_);refine wpList_load_at rfl 48 (.tmp 11) rfl g (o+b * 13) (by kernel_rfl) (Ev.cells e) _ HCE.out Tryz.underlying48 rfl (by kernel_rfl) ?_)
   | ((with_reducible show wpList _ _ _ (Oper.mk none (Op.store 48 (Operand.tmp 5) _) _ _ _ _ :: _) _ _);refine wpList_store_own rfl 48 (.tmp 5) (.tmp 12) rfl B.heap.size (Ev.cells e).toArray rfl rfl 48 (Ev.cells Ev.R0).toArray (heap_alloc_new _ _) (by kernel_rfl) (by kernel_rfl) (by kernel_rfl) ?_
      intro W2 HW
      have B2:=qH (((Below.refl B.heap.size B).alloc (Nat.le_refl _) _).trans HW.below)
      have RE:=qH HW.row
      have cek:W2.cell? ⟨B.heap.size,1,none⟩=some (.int .i64 e.k):=by rw [qC HW.row];rfl
      have cez:W2.cell? ⟨B.heap.size,9,none⟩=some (.bool false):=by rw [qC HW.row,← HEZ.out];rfl
      clear HW))
  go_ret
  exact⟨by rw [HF.out];try rfl,B0.out.trans (B2.out.mono B0.out.size)⟩
 have HGO:=qH (show Ev.paired x b=Ev.pairGo x.ev e b by rw [HP.out,HEZ.out,tk];rfl)
 go_enter Tryz.func38,Tryz.ntmps38
 go_wp2_with (first
  | ((with_reducible refine qG 8 ?_);rw [show w.alloc (Obj.cells #[Value.slice x.ae x.ev.length x.ce,Value.slice x.fr.a x.fr.l.length x.fr.c,Value.slice x.ao x.od.length x.co] 26)=B from HB.out.symm])
  | ((with_reducible refine qG 12 ?_);refine wpList_load_at rfl 48 (.tmp 11) rfl g (o+b * 13) (by kernel_rfl) (Ev.cells e) _ HCE.out Tryz.underlying48 rfl (by kernel_rfl) ?_)
  | ((with_reducible show wpList _ _ _ (Oper.mk none (Op.store 48 (Operand.tmp 5) _) _ _ _ _ :: _) _ _);refine wpList_store_own rfl 48 (.tmp 5) (.tmp 12) rfl B.heap.size (Ev.cells e).toArray rfl rfl 48 (Ev.cells Ev.R0).toArray (heap_alloc_new _ _) (by kernel_rfl) (by kernel_rfl) (by kernel_rfl) ?_
     intro W2 HW
     have B2:=qH (((Below.refl B.heap.size B).alloc (Nat.le_refl _) _).trans HW.below)
     have RE:=qH HW.row
     have cek:W2.cell? ⟨B.heap.size,1,none⟩=some (.int .i64 e.k):=by rw [qC HW.row];rfl
     have cez:W2.cell? ⟨B.heap.size,9,none⟩=some (.bool true):=by rw [qC HW.row,← HEZ.out];rfl
     clear HW))
 clear cek cez cx
 go_loopw [6] (fun i wr=>∃ m:Nat,m≤b∧i=.int .i64 ((m:Int) - 1)∧Ev.paired x b=Ev.pairGo x.ev e m∧Below W2.heap.size W2 wr) (fun i _=>(intOf i+1).toNat)
 case atStart=>exact⟨b,Nat.le_refl _,rfl,HGO.out,Below.refl _ _⟩
 case round =>
  obtain⟨m,hm,rfl,hgo,hbr⟩:=hrel
  have HG:=qH hgo;have HBR:=qH hbr;clear hgo hbr
  have BB:=qH (B2.out.trans (HBR.out.mono B2.out.size))
  cases m with
  | zero =>
    have HF:=qH (show Ev.paired x b=-1 by rw [HG.out];rfl)
    rw [show ((0:Nat):Int) - 1=-1 from rfl]
    go_wp2
    go_ret
    exact⟨by rw [HF.out];try rfl,B0.out.trans (BB.out.mono B0.out.size)⟩
  | succ a =>
    rw [show ((a+1:Nat):Int) - 1=(a:Int) by omega]
    have hai:(a:Int) < (x.ev.length:Int):=by omega
    obtain⟨y,hy⟩:∃ y,x.ev[a]?=some y:=⟨_,List.getElem?_eq_getElem (by omega)⟩
    obtain⟨g',o',eg',hcy⟩:=(HX.out.ev.kp (Ev.kp_below BB.out)).at_ hy
    obtain⟨rfl,rfl⟩:g'=g∧o'=o:=by rw [HEG.out] at eg';cases eg';exact⟨rfl,rfl⟩
    have HCY:=qH hcy
    have HG2:=qH (show Ev.paired x b=if y.h≠e.h then -1 else if (y.z&&y.k==2)=true then -1 else if y.z=true then (if y.a=e.a then (a:Int) else -1) else Ev.pairGo x.ev e a by
     rw [HG.out];show(if (Ev.nth x.ev a).h≠e.h then -1 else if ((Ev.nth x.ev a).z&&(Ev.nth x.ev a).k==2)=true then -1 else if (Ev.nth x.ev a).z=true then (if (Ev.nth x.ev a).a=e.a then (a:Int) else -1) else Ev.pairGo x.ev e a)=_;rw [Ev.nth_some hy])
    have cx:=CX.out wr BB.out
    have REW:=qH ((HBR.out.block B.heap.size (qL RE.out)).trans RE.out)
    obtain⟨yz,hyz⟩:∃ z,y.z=z:=⟨_,rfl⟩
    have HYZ:=qH hyz
    clear hy eg' hcy hyz
    have W3S:=qH (fun (W:World) (h:Ev.Set1 (wr.alloc (.cells (Ev.cells Ev.R0).toArray 48)) W wr.heap.size 48 (Ev.cells y).toArray)=>(((Below.refl wr.heap.size wr).alloc (Nat.le_refl _) _).trans h.below))
    by_cases hh:y.h=e.h
    case neg =>
     have th:(y.h != e.h)=true:=by simpa using hh
     have HF:=qH (show Ev.paired x b=-1 by rw [HG2.out,if_pos hh])
     clear hh
     go_wp2_with (first
      | ((with_reducible refine qG 31 ?_);refine wpList_load_at rfl 48 (.tmp 30) rfl g' (o'+a * 13) (by kernel_rfl) (Ev.cells y) _ HCY.out Tryz.underlying48 rfl (by kernel_rfl) ?_)
      | ((with_reducible show wpList _ _ _ (Oper.mk none (Op.store 48 (Operand.tmp 7) _) _ _ _ _ :: _) _ _);refine wpList_store_own rfl 48 (.tmp 7) (.tmp 31) rfl wr.heap.size (Ev.cells y).toArray rfl rfl 48 (Ev.cells Ev.R0).toArray (heap_alloc_new _ _) (by kernel_rfl) (by kernel_rfl) (by kernel_rfl) ?_
         intro W3 HW
         have BY:=qH (((Below.refl wr.heap.size wr).alloc (Nat.le_refl _) _).trans HW.below)
         have B3:=qH (BB.out.trans (BY.out.mono BB.out.size))
         have HBR3:=qH (HBR.out.trans (BY.out.mono HBR.out.size))
         have RE3:=qH ((BY.out.block B.heap.size (qL REW.out)).trans REW.out)
         have y0:W3.cell? ⟨wr.heap.size,0,none⟩=some (.int .i64 y.h):=by rw [qC HW.row];rfl
         have y1:W3.cell? ⟨wr.heap.size,1,none⟩=some (.int .i64 y.k):=by rw [qC HW.row];rfl
         have y2:W3.cell? ⟨wr.heap.size,2,none⟩=some (.int .u32 y.a):=by rw [qC HW.row];rfl
         have y9:W3.cell? ⟨wr.heap.size,9,none⟩=some (.bool yz):=by rw [qC HW.row,← HYZ.out];rfl
         have e0:W3.cell? ⟨B.heap.size,0,none⟩=some (.int .i64 e.h):=by rw [qC RE3.out];rfl
         have e2:W3.cell? ⟨B.heap.size,2,none⟩=some (.int .u32 e.a):=by rw [qC RE3.out];rfl
         clear HW))
     go_ret
     exact⟨by rw [HF.out];try rfl,B0.out.trans (B3.out.mono B0.out.size)⟩
    have th:(y.h != e.h)=false:=by simp [hh]
    have HG3:=qH (show Ev.paired x b=if (yz&&y.k==2)=true then -1 else if yz=true then (if y.a=e.a then (a:Int) else -1) else Ev.pairGo x.ev e a by rw [HG2.out,if_neg (fun h=>h hh),HYZ.out])
    clear hh
    cases yz
    ·have HF:=qH (show Ev.paired x b=Ev.pairGo x.ev e a by rw [HG3.out];simp)
     go_wp2_with (first
      | ((with_reducible refine qG 31 ?_);refine wpList_load_at rfl 48 (.tmp 30) rfl g' (o'+a * 13) (by kernel_rfl) (Ev.cells y) _ HCY.out Tryz.underlying48 rfl (by kernel_rfl) ?_)
      | ((with_reducible show wpList _ _ _ (Oper.mk none (Op.store 48 (Operand.tmp 7) _) _ _ _ _ :: _) _ _);refine wpList_store_own rfl 48 (.tmp 7) (.tmp 31) rfl wr.heap.size (Ev.cells y).toArray rfl rfl 48 (Ev.cells Ev.R0).toArray (heap_alloc_new _ _) (by kernel_rfl) (by kernel_rfl) (by kernel_rfl) ?_
         intro W3 HW
         have BY:=qH (((Below.refl wr.heap.size wr).alloc (Nat.le_refl _) _).trans HW.below)
         have B3:=qH (BB.out.trans (BY.out.mono BB.out.size))
         have HBR3:=qH (HBR.out.trans (BY.out.mono HBR.out.size))
         have RE3:=qH ((BY.out.block B.heap.size (qL REW.out)).trans REW.out)
         have y0:W3.cell? ⟨wr.heap.size,0,none⟩=some (.int .i64 y.h):=by rw [qC HW.row];rfl
         have y1:W3.cell? ⟨wr.heap.size,1,none⟩=some (.int .i64 y.k):=by rw [qC HW.row];rfl
         have y2:W3.cell? ⟨wr.heap.size,2,none⟩=some (.int .u32 y.a):=by rw [qC HW.row];rfl
         have y9:W3.cell? ⟨wr.heap.size,9,none⟩=some (.bool false):=by rw [qC HW.row,← HYZ.out];rfl
         have e0:W3.cell? ⟨B.heap.size,0,none⟩=some (.int .i64 e.h):=by rw [qC RE3.out];rfl
         have e2:W3.cell? ⟨B.heap.size,2,none⟩=some (.int .u32 e.a):=by rw [qC RE3.out];rfl
         clear HW))
     go_roundw
     case rel=>exact⟨a,by omega,rfl,HF.out,HBR3.out⟩
     case measure=>simp [intOf] <;> omega
    by_cases hk:y.k=2
    ·have tk:(y.k==2)=true:=by simpa using hk
     have HF:=qH (show Ev.paired x b=-1 by rw [HG3.out,tk];simp)
     clear hk
     go_wp2_with (first
      | ((with_reducible refine qG 31 ?_);refine wpList_load_at rfl 48 (.tmp 30) rfl g' (o'+a * 13) (by kernel_rfl) (Ev.cells y) _ HCY.out Tryz.underlying48 rfl (by kernel_rfl) ?_)
      | ((with_reducible show wpList _ _ _ (Oper.mk none (Op.store 48 (Operand.tmp 7) _) _ _ _ _ :: _) _ _);refine wpList_store_own rfl 48 (.tmp 7) (.tmp 31) rfl wr.heap.size (Ev.cells y).toArray rfl rfl 48 (Ev.cells Ev.R0).toArray (heap_alloc_new _ _) (by kernel_rfl) (by kernel_rfl) (by kernel_rfl) ?_
         intro W3 HW
         have BY:=qH (((Below.refl wr.heap.size wr).alloc (Nat.le_refl _) _).trans HW.below)
         have B3:=qH (BB.out.trans (BY.out.mono BB.out.size))
         have HBR3:=qH (HBR.out.trans (BY.out.mono HBR.out.size))
         have RE3:=qH ((BY.out.block B.heap.size (qL REW.out)).trans REW.out)
         have y0:W3.cell? ⟨wr.heap.size,0,none⟩=some (.int .i64 y.h):=by rw [qC HW.row];rfl
         have y1:W3.cell? ⟨wr.heap.size,1,none⟩=some (.int .i64 y.k):=by rw [qC HW.row];rfl
         have y2:W3.cell? ⟨wr.heap.size,2,none⟩=some (.int .u32 y.a):=by rw [qC HW.row];rfl
         have y9:W3.cell? ⟨wr.heap.size,9,none⟩=some (.bool true):=by rw [qC HW.row,← HYZ.out];rfl
         have e0:W3.cell? ⟨B.heap.size,0,none⟩=some (.int .i64 e.h):=by rw [qC RE3.out];rfl
         have e2:W3.cell? ⟨B.heap.size,2,none⟩=some (.int .u32 e.a):=by rw [qC RE3.out];rfl
         clear HW))
     go_ret
     exact⟨by rw [HF.out];try rfl,B0.out.trans (B3.out.mono B0.out.size)⟩
    have tk:(y.k==2)=false:=by simpa using hk
    clear hk
    by_cases ha:y.a=e.a
    ·have ta:(y.a==e.a)=true:=by simpa using ha
     have HF:=qH (show Ev.paired x b=(a:Int) by rw [HG3.out,tk,if_pos ha];simp)
     clear ha
     go_wp2_with (first
      | ((with_reducible refine qG 31 ?_);refine wpList_load_at rfl 48 (.tmp 30) rfl g' (o'+a * 13) (by kernel_rfl) (Ev.cells y) _ HCY.out Tryz.underlying48 rfl (by kernel_rfl) ?_)
      | ((with_reducible show wpList _ _ _ (Oper.mk none (Op.store 48 (Operand.tmp 7) _) _ _ _ _ :: _) _ _);refine wpList_store_own rfl 48 (.tmp 7) (.tmp 31) rfl wr.heap.size (Ev.cells y).toArray rfl rfl 48 (Ev.cells Ev.R0).toArray (heap_alloc_new _ _) (by kernel_rfl) (by kernel_rfl) (by kernel_rfl) ?_
         intro W3 HW
         have BY:=qH (((Below.refl wr.heap.size wr).alloc (Nat.le_refl _) _).trans HW.below)
         have B3:=qH (BB.out.trans (BY.out.mono BB.out.size))
         have HBR3:=qH (HBR.out.trans (BY.out.mono HBR.out.size))
         have RE3:=qH ((BY.out.block B.heap.size (qL REW.out)).trans REW.out)
         have y0:W3.cell? ⟨wr.heap.size,0,none⟩=some (.int .i64 y.h):=by rw [qC HW.row];rfl
         have y1:W3.cell? ⟨wr.heap.size,1,none⟩=some (.int .i64 y.k):=by rw [qC HW.row];rfl
         have y2:W3.cell? ⟨wr.heap.size,2,none⟩=some (.int .u32 y.a):=by rw [qC HW.row];rfl
         have y9:W3.cell? ⟨wr.heap.size,9,none⟩=some (.bool true):=by rw [qC HW.row,← HYZ.out];rfl
         have e0:W3.cell? ⟨B.heap.size,0,none⟩=some (.int .i64 e.h):=by rw [qC RE3.out];rfl
         have e2:W3.cell? ⟨B.heap.size,2,none⟩=some (.int .u32 e.a):=by rw [qC RE3.out];rfl
         clear HW))
     go_ret
     exact⟨by rw [HF.out];try rfl,B0.out.trans (B3.out.mono B0.out.size)⟩
    ·have ta:(y.a==e.a)=false:=by simpa using ha
     have HF:=qH (show Ev.paired x b=-1 by rw [HG3.out,tk,if_neg ha];simp)
     clear ha
     go_wp2_with (first
      | ((with_reducible refine qG 31 ?_);refine wpList_load_at rfl 48 (.tmp 30) rfl g' (o'+a * 13) (by kernel_rfl) (Ev.cells y) _ HCY.out Tryz.underlying48 rfl (by kernel_rfl) ?_)
      | ((with_reducible show wpList _ _ _ (Oper.mk none (Op.store 48 (Operand.tmp 7) _) _ _ _ _ :: _) _ _);refine wpList_store_own rfl 48 (.tmp 7) (.tmp 31) rfl wr.heap.size (Ev.cells y).toArray rfl rfl 48 (Ev.cells Ev.R0).toArray (heap_alloc_new _ _) (by kernel_rfl) (by kernel_rfl) (by kernel_rfl) ?_
         intro W3 HW
         have BY:=qH (((Below.refl wr.heap.size wr).alloc (Nat.le_refl _) _).trans HW.below)
         have B3:=qH (BB.out.trans (BY.out.mono BB.out.size))
         have HBR3:=qH (HBR.out.trans (BY.out.mono HBR.out.size))
         have RE3:=qH ((BY.out.block B.heap.size (qL REW.out)).trans REW.out)
         have y0:W3.cell? ⟨wr.heap.size,0,none⟩=some (.int .i64 y.h):=by rw [qC HW.row];rfl
         have y1:W3.cell? ⟨wr.heap.size,1,none⟩=some (.int .i64 y.k):=by rw [qC HW.row];rfl
         have y2:W3.cell? ⟨wr.heap.size,2,none⟩=some (.int .u32 y.a):=by rw [qC HW.row];rfl
         have y9:W3.cell? ⟨wr.heap.size,9,none⟩=some (.bool true):=by rw [qC HW.row,← HYZ.out];rfl
         have e0:W3.cell? ⟨B.heap.size,0,none⟩=some (.int .i64 e.h):=by rw [qC RE3.out];rfl
         have e2:W3.cell? ⟨B.heap.size,2,none⟩=some (.int .u32 e.a):=by rw [qC RE3.out];rfl
         clear HW))
     go_ret
     exact⟨by rw [HF.out];try rfl,B0.out.trans (B3.out.mono B0.out.size)⟩
end Go.Proofs.YtnjnpbabgefaeaaGreat
end
section
namespace Go.Proofs.YtnjnpbabgefaeaaGreat
open Go.RowKit
namespace Ev
def pv (p:Nat × Nat):List Value:=[.int .i64 (p.1:Int),.int .i64 (p.2:Int)]
def cutL (bond:Nat→Nat→Int) (a:Nat):List Nat→List (Nat × Nat)
 | []=>[]
 | b :: r=>if bond a b=2 then [] else if bond a b=1 then (a,b) :: cutL bond a r else cutL bond a r
def told (bond:Nat→Nat→Int) (n a:Nat):List (Nat × Nat):=(List.range a).flatMap fun i=>cutL bond i (List.range n)
theorem told_succ (bond:Nat→Nat→Int) (n a:Nat):told bond n (a+1)=told bond n a++cutL bond a (List.range n):=by
 unfold told;rw [List.range_succ,List.flatMap_append];simp
theorem cutL_len (bond:Nat→Nat→Int) (a:Nat):∀ l,(cutL bond a l).length≤l.length
 | []=>by simp [cutL]
 | b :: r=>by
   have:=cutL_len bond a r
   unfold cutL
   split
   ·simp
   ·split <;> simp <;> omega
theorem told_len (bond:Nat→Nat→Int) (n:Nat):∀ a,(told bond n a).length≤a * n
 | 0=>by simp [told]
 | a+1=>by
   have h1:=told_len bond n a
   have h2:=cutL_len bond a (List.range n)
   rw [told_succ,List.length_append,Nat.succ_mul]
   simp at h2;omega
theorem drop_range {n b:Nat} (h:b < n):(List.range n).drop b=b :: (List.range n).drop (b+1):=by
 rw [List.drop_eq_getElem_cons (by simpa using h)];simp
structure PairsIn (w:World) (a:Option Addr) (c:Nat) (ps:List (Nat × Nat)):Prop where
 rows:RowsIn w a 2 (ps.map pv)
 le:ps.length≤c
 max:c≤9223372036854775807
def Enters (F:FuncId):Prop:=∀ args w,(callFunc F args).run Tryz.prog w=.ok (.enter F args) w
def Makes (w:World) (x:X) (F:FuncId) (bond:Nat→Nat→Int):Prop :=
 ∀ W,XIn W x→Calls Tryz.prog F #[exV x] W fun e w'=>∃ (G:FuncId) (caps:Array Value),e=.returned (.func (.func G) #[] caps)∧Enters G∧Below W.heap.size W w' ∧
   ∀ W2,Below w'.heap.size w' W2→∀ a b,a < x.ev.length→b < x.ev.length→Calls Tryz.prog G (#[.int .i64 (a:Int),.int .i64 (b:Int)]++caps) W2 fun e w''=>e=.returned (.int .i64 (bond a b))∧Below W2.heap.size W2 w''
theorem pv_one (p:Nat × Nat):∀ u ∈ pv p,u.oneCell'=true:=by
 intro u hu;simp [pv] at hu;rcases hu with rfl | rfl <;> rfl
theorem row_below {w w':World} {base:Nat} {e:TypeId} {size n:Nat} {v:Value} {xs:List Value} (h:w.ownsRow base e size v n xs) (hb:Below w.heap.size w w'):w'.ownsRow base e size v n xs :=
 h.kept (World.grownBy.but_of hb) (by by_cases h:v.ownBlock=none;exact .inl h;exact .inr h)
theorem pv_flat (ps:List (Nat × Nat)):∀ (j:Nat) (p:Nat × Nat) (i:Nat) (c:Value),ps[j]?=some p→(pv p)[i]?=some c→(ps.flatMap pv)[j * 2+i]?=some c:=by
 induction ps with
 | nil=>intro j p i c h;simp at h
 | cons q r ih =>
   intro j p i c hj hi
   have hil:i < 2:=by have:=(List.getElem?_eq_some_iff.1 hi).1;simpa [pv] using this
   cases j with
   | zero =>
     cases Option.some.inj hj
     rw [List.flatMap_cons,List.getElem?_append_left (by simp [pv];omega)]
     simpa using hi
   | succ j =>
     have h2:=ih j p i c (by simpa using hj) hi
     rw [List.flatMap_cons,List.getElem?_append_right (by simp [pv];omega)]
     have e:(j+1) * 2+i - (pv q).length=j * 2+i:=by simp [pv];omega
     rw [e];exact h2
theorem own_ge {w:World} {base:Nat} {e:TypeId} {size n:Nat} {v:Value} {xs:List Value} (h:w.ownsRow base e size v n xs) {k:Nat} (hk:v.ownBlock=some k):base≤k:=by
 rcases h.2 with ⟨rfl,_⟩ | ⟨g,cap,cur,rfl,hb,_⟩
 ·cases hk
 ·have:g=k:=by simpa [Value.ownBlock] using hk
  omega
theorem pairs_of_row {w:World} {base:Nat} {e:TypeId} {v:Value} {ps:List (Nat × Nat)} (h:w.ownsRow base e 2 v ps.length (ps.flatMap pv)):∃ a c,v=.slice a ps.length c∧PairsIn w a c ps:=by
 rcases h.2 with ⟨rfl,hn⟩ | ⟨g,cap,cur,rfl,_,hh,hnc,hcm,_,ht⟩
 ·refine⟨none,0,by rw [hn],⟨fun hp=>?_,by omega,by omega⟩⟩
  simp at hp;omega
 ·refine⟨some ⟨g,0,none⟩,cap,rfl,⟨fun _=>⟨g,0,rfl,fun j v hv i c hi=>?_⟩,hnc,by unfold maxLen at hcm;exact hcm⟩⟩
  rw [List.getElem?_map] at hv
  cases hj:ps[j]? with
  | none=>rw [hj] at hv;cases hv
  | some p =>
    rw [hj] at hv
    have hvp:pv p=v:=by simpa using hv
    subst hvp
    have h1:=pv_flat ps j p i c hj hi
    rw [← ht,List.getElem?_take] at h1
    split at h1
    ·rw [cell_of_row w g _ cur e (0,0) hh]
     simpa using h1
    ·cases h1
end Ev
theorem info_pair:∃ i,Tryz.prog.info? 72=some i∧i.zero=some (.agg #[.int .i64 0,.int .i64 0])∧i.size=2∧i.bytes=16:=⟨_,rfl,by kernel_rfl,by kernel_rfl,by kernel_rfl⟩
theorem check_is {x:Ev.X} {v:Int} (h:Ev.check x=v) (w:World) (hin:Ev.XIn w x):Calls Tryz.prog 47 #[.agg (Ev.xcells x).toArray] w fun e w'=>e=.returned (.int .i64 v)∧Below w.heap.size w w':=h ▸ check_any x w hin
theorem pairs_yes (x:Ev.X) (F:FuncId) (bond:Nat→Nat→Int) (w:World) (hin:Ev.XIn w x) (hc:Ev.check x=0) (hcf:Ev.Enters F) (hF:Ev.Makes w x F bond) :
 Calls Tryz.prog 83 #[Ev.exV x,.func (.func F) #[] #[]] w fun e w'=>∃ a c,e=.returned (.slice a (Ev.told bond x.ev.length x.ev.length).length c)∧Ev.PairsIn w' a c (Ev.told bond x.ev.length x.ev.length)∧Below w.heap.size w w':=by
 have HIN:=qH hin;have HV:=qH hc;have HF:=qH hF
 have hn64:x.ev.length≤64:=by
  apply Classical.byContradiction;intro h;unfold Ev.check at hc;rw [if_pos (by omega)] at hc;cases hc
 have hle:=hin.ev.le;have hmax:=hin.ev.max
 have HCF:=qH hcf
 clear hin hc hF hcf
 have R0:=qH (heap_alloc_new w (.cells (Ev.xcells x).toArray 26))
 have B0:=qH ((Below.refl w.heap.size w).alloc (Nat.le_refl _) (.cells (Ev.xcells x).toArray 26))
 obtain⟨n,hn⟩:∃ n,n=x.ev.length:=⟨_,rfl⟩
 have HN:=qH hn
 rw [← hn] at hn64 hle ⊢
 clear hn
 unfold Ev.exV Ev.xcells
 go_enter Tryz.func83,Tryz.ntmps83
 go_wp2
 try go_step3
 go_wp2_with (show wpList _ _ _ (Oper.mk (some 9) _ _ _ _ _ :: _) _ _;refine wpList_load_row rfl 26 (.tmp 2) rfl w.heap.size (by kernel_rfl) 26 (Ev.xcells x).toArray (0,0) _ R0.out Tryz.underlying26 rfl (by kernel_rfl) ?_)
 refine(check_is HV.out _ (HIN.out.kp (Ev.kp_below B0.out))).mono ?_
 rintro e W1 ⟨rfl,hb⟩
 have R1:=qH ((hb.block w.heap.size (by simp only [World.size_alloc];omega)).trans R0.out)
 have B1:=qH (B0.out.trans (hb.mono (by simp only [World.size_alloc];omega)));clear hb
 have hcf:=HCF.out
 unfold Ev.Enters at hcf
 go_wp2_with (show wpList _ _ _ (Oper.mk (some 13) _ _ _ _ _ :: _) _ _;refine wpList_load_row rfl 26 (.tmp 2) rfl w.heap.size (by kernel_rfl) 26 (Ev.xcells x).toArray (0,0) _ R1.out Tryz.underlying26 rfl (by kernel_rfl) ?_)
 clear hcf
 refine(HF.out W1 (HIN.out.kp (Ev.kp_below B1.out))).mono ?_
 rintro e W2 ⟨G,caps,rfl,hge,hb,hG⟩
 have HGE:=qH hge;clear hge
 have R2:=qH ((hb.block w.heap.size (qL R1.out)).trans R1.out)
 have B2:=qH (B1.out.trans (hb.mono B1.out.size));have HG:=qH hG;clear hb hG
 have c0:∀ W,Below W2.heap.size W2 W→W.cell? ⟨w.heap.size,0,none⟩=some (.slice x.ae (n:Nat) x.ce):=fun W h=>by
  rw [qC ((h.block w.heap.size (qL R2.out)).trans R2.out),HN.out];rfl
 have C0:=qH c0
 have c00:=c0 W2 (Below.refl _ _)
 clear c0
 obtain⟨i0,hi,hz0,hz1,hz2⟩:=info_pair
 have HI:=qH hi;have HZ0:=qH hz0;have HZ1:=qH hz1;have HZ2:=qH hz2;clear hi hz0 hz1 hz2
 go_wp2
 go_step3
 go_wp2
 clear c00
 go_loopw [6,7,8,18] (fun v _ _ i wr=>∃ a:Nat,a≤n∧i=.int .i64 (a:Int)∧wr.ownsRow W2.heap.size 72 2 v (Ev.told bond n a).length ((Ev.told bond n a).flatMap Ev.pv)∧Below W2.heap.size W2 wr) (fun _ _ _ i _=>n - (intOf i).toNat)
 case atStart=>exact⟨0,Nat.zero_le _,rfl,World.ownsRow_nil _ _ _ _,Below.refl _ _⟩
 case round =>
  obtain⟨a,ha,rfl,hrow,hbr⟩:=hrel
  have HROW:=qH hrow;have HBR:=qH hbr
  have c0:=C0.out _ hbr
  clear hrow hbr
  by_cases hlt:a < n
  ·have hai:(a:Int) < (n:Int):=by omega
   go_wp2
   clear c0
   go_loopw [6,8,24] (fun v _ j w3=>∃ (b:Nat) (ps:List (Nat × Nat)),b≤n∧j=.int .i64 (b:Int)∧ps.length≤b∧Ev.cutL bond a (List.range n)=ps++Ev.cutL bond a ((List.range n).drop b)∧w3.ownsRow W2.heap.size 72 2 v (Ev.told bond n a++ps).length ((Ev.told bond n a++ps).flatMap Ev.pv)∧Below W2.heap.size W2 w3) (fun _ _ j _=>n - (intOf j).toNat)
   case atStart=>exact⟨0,[],Nat.zero_le _,rfl,Nat.le_refl _,by simp,by simpa using HROW.out,HBR.out⟩
   case round =>
    obtain⟨b,ps,hb,rfl,hpl,hcut,hrow3,hb3⟩:=hrel
    have HR3:=qH hrow3;have HB3:=qH hb3;have HCUT:=qH hcut
    clear hrow3 hb3 hcut
    by_cases hbl:b < n
    ·have hbi:(b:Int) < (n:Int):=by omega
     have hd:=Ev.drop_range hbl
     have HD:=qH hd;clear hd
     have hge:=HGE.out
     unfold Ev.Enters at hge
     go_wp2_with fail
     clear hge
     refine(HG.out _ HB3.out a b (by rw [← HN.out];exact hlt) (by rw [← HN.out];exact hbl)).mono ?_
     rintro e W4 ⟨rfl,hb4⟩
     have HB4:=qH (HB3.out.trans (hb4.mono HB3.out.size))
     have HR4:=qH (Ev.row_below HR3.out hb4)
     clear hb4
     obtain⟨t,ht⟩:∃ t,bond a b=t:=⟨_,rfl⟩
     have HT:=qH ht
     rw [ht];clear ht
     by_cases h1:t=1
     ·subst h1
      have HCUT2:=qH (show Ev.cutL bond a (List.range n)=(ps++[(a,b)])++Ev.cutL bond a ((List.range n).drop (b+1)) by
       rw [HCUT.out,HD.out,List.append_assoc];congr 1;simp only [Ev.cutL];rw [HT.out];simp)
      have htl:=Ev.told_len bond n a
      have hmul:a * n≤64 * 64:=Nat.mul_le_mul (by omega) hn64
      have hlen:(Ev.told bond n a++ps).length≤4160:=by rw [List.length_append];omega
      clear htl hmul
      go_wp2_with (show wpList _ _ _ (Oper.mk (some 38) _ _ _ _ _ :: _) _ _;refine wpList_append_own _ rfl (.tmp 33) (.tmp 37) 37 rfl W2.heap.size 72 i0 (.agg #[.int .i64 0,.int .i64 0]) 2 16 Tryz.underlying37 HI.out HZ0.out HZ1.out HZ2.out rfl (by decide) _ _ _ rfl (HR4.out.alloc _) ⟨W4.heap.size,0,none⟩ 1 1 (Ev.pv (a,b)) rfl rfl (fun j u hu=>World.news_of_block (heap_alloc_new W4 _) j u hu) (Ev.pv_one _) (by unfold maxLen;omega) (by omega) (by have:=HB4.out.size;simp only [World.size_alloc];omega) ?_
                   intro v' w5 hown hgrow _
                   have HOWN:=qH hown;have HGR:=qH hgrow;clear hown hgrow)
      have HB5:=qH (Below.grown (HB4.out.alloc HB4.out.size _) HGR.out (by have:=HB4.out.size;simp only [World.size_alloc];omega) (fun k hk=>Ev.own_ge HR4.out hk))
      go_roundw
      case rel =>
       refine⟨b+1,ps++[(a,b)],by omega,by go_num,by simp;omega,HCUT2.out,?_,HB5.out⟩
       have:=HOWN.out
       rw [← List.append_assoc,List.length_append,List.flatMap_append]
       simpa using this
      case measure=>simp [intOf];omega
     by_cases h2:t=2
     ·subst h2
      have HTOLD:=qH (show Ev.told bond n (a+1)=Ev.told bond n a++ps by
       rw [Ev.told_succ,HCUT.out,HD.out];simp only [Ev.cutL];rw [HT.out];simp)
      have q1:((2:Int)==1)=false:=by decide
      go_wp2_with fail
      go_roundw
      case rel=>exact⟨a+1,by omega,by go_num,by rw [HTOLD.out];exact HR4.out,HB4.out⟩
      case measure=>simp [intOf];omega
     have q1:(t==1)=false:=by simpa using h1
     have q2:(t==2)=false:=by simpa using h2
     have HCUT2:=qH (show Ev.cutL bond a (List.range n)=ps++Ev.cutL bond a ((List.range n).drop (b+1)) by
      rw [HCUT.out,HD.out];congr 1;simp only [Ev.cutL];rw [HT.out,if_neg h2,if_neg h1])
     clear h1 h2
     go_wp2_with fail
     go_roundw
     case rel=>exact⟨b+1,ps,by omega,by go_num,by omega,HCUT2.out,HR4.out,HB4.out⟩
     case measure=>simp [intOf];omega
    ·have hbn:b=n:=by omega
     have HTOLD:=qH (show Ev.told bond n (a+1)=Ev.told bond n a++ps by
      rw [Ev.told_succ,HCUT.out,hbn,List.drop_eq_nil_of_le (by simp)];simp [Ev.cutL])
     have hbi:¬ (b:Int) < (n:Int):=by omega
     clear hbn
     go_wp2_with fail
     go_roundw
     case rel=>exact⟨a+1,by omega,by go_num,by rw [HTOLD.out];exact HR3.out,HB3.out⟩
     case measure=>simp [intOf];omega
  ·have han:a=n:=by omega
   have hai:¬ (a:Int) < (n:Int):=by omega
   have hrow:=HROW.out
   rw [han] at hrow
   obtain⟨A,c,hv,hp⟩:=Ev.pairs_of_row hrow
   have HP:=qH hp
   subst hv
   clear hrow hp han c0
   go_wp2
   try rw [Exit.noGoto_ret]
   go_ret
   exact⟨A,c,rfl,HP.out,B2.out.trans (HBR.out.mono B2.out.size)⟩
end Go.Proofs.YtnjnpbabgefaeaaGreat
end
