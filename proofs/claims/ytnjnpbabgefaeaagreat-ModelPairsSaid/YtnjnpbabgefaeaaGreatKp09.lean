import Derived.Test.YtnjnpbabgefaeaaGreatKp07
import Derived.Maps.RangeWalk
import Derived.Test.YtnjnpbabgefaeaaGreatKpH
set_option maxRecDepth 100000
set_option maxHeartbeats 2000000
set_option linter.unusedVariables false
set_option linter.unusedSimpArgs false
section
namespace Go.Proofs.YtnjnpbabgefaeaaGreat
open Go.RowKit Go.Maps Go.WideElems
namespace Ev
def acc (k:Int):Bool:=k==1||k==2||k==3
def isBeg (y:Int) (e:R):Bool:=e.k==5&&e.a==y
def begunAt (xs:List R) (k:Nat):Bool:=!(acc (nth xs k).k)||(xs.take k).any (isBeg (nth xs k).a)
def begun (xs:List R):Bool:=(List.range xs.length).all (begunAt xs)
structure HasIs (w:World) (b n:Nat) (f:Int→Bool):Prop where
 ex:∃ D:DataW Unit,w.ownsMap Tryz.prog 46 unitElem b n D∧∀ x,u32B x→Maps.has D (.int .u32 x)=f x
theorem HasIs.keep {w w':World} {b n m:Nat} {f g:Int→Bool} {row:Option Nat} (h:HasIs w b n f) (hg:w.grownBy w' row) (hne:some b≠row) (hnm:n≤m) (hf:∀ x,u32B x→f x=g x):HasIs w' b m g:=by
 obtain⟨D,ho,hD⟩:=h.ex
 exact⟨⟨D,(ho.kept hg hne).mono hnm,fun x hx=>(hD x hx).trans (hf x hx)⟩⟩
theorem HasIs.alloc {w:World} {b n:Nat} {f:Int→Bool} (h:HasIs w b n f) (o:Obj):HasIs (w.alloc o) b n f:=by
 obtain⟨D,ho,hD⟩:=h.ex
 exact⟨⟨D,ho.alloc _,hD⟩⟩
theorem has_put {D:DataW Unit} (hm:IsMap D) {a x:Int}:Maps.has (D.put (.int .u32 a) (.agg [])) (.int .u32 x)=(decide (a=x)||Maps.has D (.int .u32 x)):=by
 by_cases h:a=x
 ·subst h;rw [Maps.has_put_same hm (iskey_int _ _)];simp
 ·rw [Maps.has_put_other (by intro e;injection e with _ e;exact h e.symm)];simp [h]
theorem any_snoc {xs:List R} {x:R} {f:R→Bool}:(xs++[x]).any f=(xs.any f||f x):=by simp
theorem begun_false {xs:List R} {k:Nat} (hk:k < xs.length) (h:begunAt xs k=false):begun xs=false:=by
 unfold begun
 rw [List.all_eq_false];exact⟨k,List.mem_range.2 hk,by rw [h];simp⟩
theorem begun_true {xs:List R} (h:∀ k,k < xs.length→begunAt xs k=true):begun xs=true:=by
 unfold begun
 rw [List.all_eq_true];exact fun k hk=>h k (List.mem_range.1 hk)
end Ev
theorem begun_any (a:Option Addr) (c:Nat) (xs:List Ev.R) (w:World) (hin:Ev.EvsIn w a c xs) :
 Calls Tryz.prog 97 #[.slice a xs.length c] w fun e w'=>e=.returned (.bool (Ev.begun xs))∧Below w.heap.size w w':=by
 have hmax:=hin.max;have hle:=hin.le
 have HIN:=qH hin;clear hin
 have hmm:=@run_makeMap Tryz.prog
 go_enter Tryz.func97,Tryz.ntmps97
 go_wp2
 go_loopw [7,11,17,23] (fun _ i _ _ wr=>∃ k:Nat,k≤xs.length∧i=.int .i64 (k:Int)∧Ev.HasIs wr w.heap.size k (fun y=>(xs.take k).any (Ev.isBeg y))∧(∀ j,j < k→Ev.begunAt xs j=true)∧Below w.heap.size w wr∧w.heap.size+1≤wr.heap.size) (fun _ i _ _ _=>xs.length - (intOf i).toNat)
 case atStart =>
  exact⟨0,Nat.zero_le _,rfl,⟨⟨.map [],World.ownsMap_made _ _ _ _,fun x _=>rfl⟩⟩,fun j hj=>absurd hj (by omega),(Below.refl _ _).alloc (Nat.le_refl _) _,by simp⟩
 case round =>
  obtain⟨k,hk,rfl,hb1,hall,hbr,hws⟩:=hrel
  have H1:=qH hb1;have HALL:=qH hall;have HBR:=qH hbr;have HWS:=qH hws
  clear hb1 hall hbr hws
  by_cases hlt:k < xs.length
  ·obtain⟨x,hx⟩:∃ x,xs[k]?=some x:=⟨_,List.getElem?_eq_getElem hlt⟩
   obtain⟨g,o,ea,hcx⟩:=(HIN.out.kp (Ev.kp_below HBR.out)).at_ hx
   have hxa:=(HIN.out.ok_ hx).a
   have htk:xs.take (k+1)=xs.take k++[x]:=by rw [List.take_add_one,hx];rfl
   have HC:=qH hcx;have HXA:=qH hxa;have HTK:=qH htk;have HXN:=qH (Ev.nth_some hx)
   have hki:(k:Int) < (xs.length:Int):=by omega
   have HKEY:=qH (keyOf_int_mk (P:=Tryz.prog) Tryz.underlying46 (wf_of_u32 hxa))
   obtain⟨D1,ho1,hD1⟩:=H1.out.ex
   have HO1:=qH ho1;have HD1:=qH hD1
   clear hx hcx hxa htk ho1 hD1
   rw [ea];clear ea
   have kk:x.k=5∨x.k=1∨x.k=2∨x.k=3∨(x.k≠5∧x.k≠1∧x.k≠2∧x.k≠3):=by omega
   rcases kk with h5 | h5 | h5 | h5 | h5
   ·have q5:(x.k==5)=true:=by rw [h5];rfl
    have q1:(x.k==1)=false:=by rw [h5];rfl
    have q2:(x.k==2)=false:=by rw [h5];rfl
    have q3:(x.k==3)=false:=by rw [h5];rfl
    clear h5
    have HB0:=qH (show ∀ y,Ev.isBeg y x=(x.a==y) from fun y=>by unfold Ev.isBeg;rw [q5];rfl)
    have HAT:=qH (show Ev.begunAt xs k=true by unfold Ev.begunAt;rw [HXN.out];unfold Ev.acc;rw [q1,q2,q3];rfl)
    go_wp2_with (first
     | (show wpList _ _ _ (Oper.mk (some 14) _ _ _ _ _ :: _) _ _;refine wpList_load_at rfl 48 (.tmp 13) rfl g (o+k * 13) (by kernel_rfl) (Ev.cells x) _ HC.out Tryz.underlying48 rfl (by kernel_rfl) ?_)
     | (show wpList _ _ _ (Oper.mk none (Op.store 48 _ _) _ _ _ _ :: _) _ _;refine wpList_store_own rfl 48 (.tmp 5) (.tmp 14) rfl wr.heap.size (Ev.cells x).toArray rfl rfl 48 (Ev.cells Ev.R0).toArray (heap_alloc_new _ _) (by kernel_rfl) (by kernel_rfl) (by kernel_rfl) ?_
        intro W1 HW1
        have B1:=qH (((Below.refl wr.heap.size wr).alloc (Nat.le_refl _) _).trans HW1.below)
        have c1:W1.cell? ⟨wr.heap.size,1,none⟩=some (.int .i64 x.k):=by rw [qC HW1.row];rfl
        have c2:W1.cell? ⟨wr.heap.size,2,none⟩=some (.int .u32 x.a):=by rw [qC HW1.row];rfl
        clear HW1)
     | (at_mapUpdate;clear c1 c2;refine wpList_mapUpdate_own _ rfl _ _ _ 150 rfl 46 94 law_u32 Tryz.underlying150 unitElem (w.heap.size) k D1 rfl (HO1.out.kept (World.grownBy.but_of B1.out) (by simp)) (by unfold maxLen;omega) _ _ _ rfl rfl HKEY.out (.agg []) [] unitElem_mk ?_
        intro w1 hown1 hgrow1
        have HN:=qH hown1;have HG:=qH hgrow1
        clear hown1 hgrow1))
    try go_frame
    go_roundw
    case rel =>
     refine⟨k+1,by omega,by go_num,⟨⟨_,HN.out,fun y hy=>by rw [Ev.has_put HO1.out.isMap,HD1.out y hy,HTK.out,Ev.any_snoc,HB0.out y,Bool.or_comm];congr 1⟩⟩,?_,(HBR.out.trans (B1.out.mono HBR.out.size)).grown HG.out (Nat.le_trans HBR.out.size B1.out.size) (fun j hj=>by cases hj;omega),Nat.le_trans (Nat.le_trans HWS.out B1.out.size) HG.out.size⟩
     intro j hj
     rcases Nat.lt_or_eq_of_le (Nat.le_of_lt_succ hj) with h | h
     ·exact HALL.out j h
     ·subst h;exact HAT.out
    case measure=>simp [intOf];omega
   ·have q5:(x.k==5)=false:=by rw [h5];rfl
    have q1:(x.k==1)=true:=by rw [h5];rfl
    have q2:(x.k==2)=false:=by rw [h5];rfl
    have q3:(x.k==3)=false:=by rw [h5];rfl
    clear h5
    have HB0:=qH (show ∀ y,Ev.isBeg y x=false from fun y=>by unfold Ev.isBeg;rw [q5];rfl)
    have HAT:=qH (show Ev.begunAt xs k=(xs.take k).any (Ev.isBeg x.a) by unfold Ev.begunAt;rw [HXN.out];unfold Ev.acc;rw [q1,q2,q3];rfl)
    obtain⟨h,hh⟩:∃ h,Maps.has D1 (.int .u32 x.a)=h:=⟨_,rfl⟩
    have HH:=qH hh
    have HAH:=qH (show Ev.begunAt xs k=h by rw [HAT.out,← HD1.out x.a HXA.out,hh])
    clear hh
    cases h
    ·go_wp2_with (first
      | (show wpList _ _ _ (Oper.mk (some 14) _ _ _ _ _ :: _) _ _;refine wpList_load_at rfl 48 (.tmp 13) rfl g (o+k * 13) (by kernel_rfl) (Ev.cells x) _ HC.out Tryz.underlying48 rfl (by kernel_rfl) ?_)
      | (show wpList _ _ _ (Oper.mk none (Op.store 48 _ _) _ _ _ _ :: _) _ _;refine wpList_store_own rfl 48 (.tmp 5) (.tmp 14) rfl wr.heap.size (Ev.cells x).toArray rfl rfl 48 (Ev.cells Ev.R0).toArray (heap_alloc_new _ _) (by kernel_rfl) (by kernel_rfl) (by kernel_rfl) ?_
         intro W1 HW1
         have B1:=qH (((Below.refl wr.heap.size wr).alloc (Nat.le_refl _) _).trans HW1.below)
         have c1:W1.cell? ⟨wr.heap.size,1,none⟩=some (.int .i64 x.k):=by rw [qC HW1.row];rfl
         have c2:W1.cell? ⟨wr.heap.size,2,none⟩=some (.int .u32 x.a):=by rw [qC HW1.row];rfl
         clear HW1)
      | (at_lookup;clear c1 c2;refine wpList_lookup_own_unit _ rfl _ _ 150 rfl 46 94 law_u32 Tryz.underlying150 (zero_unit _) (w.heap.size) k D1 rfl (HO1.out.kept (World.grownBy.but_of B1.out) (by simp)) _ _ rfl HKEY.out ?_;rw [HH.out]))
     go_ret
     exact⟨by rw [Ev.begun_false hlt HAH.out];rfl,((HBR.out.trans (B1.out.mono HBR.out.size)).alloc (Nat.le_trans HBR.out.size B1.out.size) _)⟩
    ·go_wp2_with (first
      | (show wpList _ _ _ (Oper.mk (some 14) _ _ _ _ _ :: _) _ _;refine wpList_load_at rfl 48 (.tmp 13) rfl g (o+k * 13) (by kernel_rfl) (Ev.cells x) _ HC.out Tryz.underlying48 rfl (by kernel_rfl) ?_)
      | (show wpList _ _ _ (Oper.mk none (Op.store 48 _ _) _ _ _ _ :: _) _ _;refine wpList_store_own rfl 48 (.tmp 5) (.tmp 14) rfl wr.heap.size (Ev.cells x).toArray rfl rfl 48 (Ev.cells Ev.R0).toArray (heap_alloc_new _ _) (by kernel_rfl) (by kernel_rfl) (by kernel_rfl) ?_
         intro W1 HW1
         have B1:=qH (((Below.refl wr.heap.size wr).alloc (Nat.le_refl _) _).trans HW1.below)
         have c1:W1.cell? ⟨wr.heap.size,1,none⟩=some (.int .i64 x.k):=by rw [qC HW1.row];rfl
         have c2:W1.cell? ⟨wr.heap.size,2,none⟩=some (.int .u32 x.a):=by rw [qC HW1.row];rfl
         clear HW1)
      | (at_lookup;clear c1 c2;refine wpList_lookup_own_unit _ rfl _ _ 150 rfl 46 94 law_u32 Tryz.underlying150 (zero_unit _) (w.heap.size) k D1 rfl (HO1.out.kept (World.grownBy.but_of B1.out) (by simp)) _ _ rfl HKEY.out ?_;rw [HH.out]))
     go_roundw
     case rel =>
      refine⟨k+1,by omega,by go_num,(H1.out.keep (World.grownBy.but_of B1.out) (by simp) (Nat.le_succ _) (fun y hy=>by rw [HTK.out,Ev.any_snoc,HB0.out y,Bool.or_false])).alloc _,?_,((HBR.out.trans (B1.out.mono HBR.out.size)).alloc (Nat.le_trans HBR.out.size B1.out.size) _),Nat.le_trans (Nat.le_trans HWS.out B1.out.size) (by simp only [World.size_alloc];omega)⟩
      intro j hj
      rcases Nat.lt_or_eq_of_le (Nat.le_of_lt_succ hj) with h | h
      ·exact HALL.out j h
      ·subst h;exact HAH.out
     case measure=>simp [intOf];omega
   ·have q5:(x.k==5)=false:=by rw [h5];rfl
    have q1:(x.k==1)=false:=by rw [h5];rfl
    have q2:(x.k==2)=true:=by rw [h5];rfl
    have q3:(x.k==3)=false:=by rw [h5];rfl
    clear h5
    have HB0:=qH (show ∀ y,Ev.isBeg y x=false from fun y=>by unfold Ev.isBeg;rw [q5];rfl)
    have HAT:=qH (show Ev.begunAt xs k=(xs.take k).any (Ev.isBeg x.a) by unfold Ev.begunAt;rw [HXN.out];unfold Ev.acc;rw [q1,q2,q3];rfl)
    obtain⟨h,hh⟩:∃ h,Maps.has D1 (.int .u32 x.a)=h:=⟨_,rfl⟩
    have HH:=qH hh
    have HAH:=qH (show Ev.begunAt xs k=h by rw [HAT.out,← HD1.out x.a HXA.out,hh])
    clear hh
    cases h
    ·go_wp2_with (first
      | (show wpList _ _ _ (Oper.mk (some 14) _ _ _ _ _ :: _) _ _;refine wpList_load_at rfl 48 (.tmp 13) rfl g (o+k * 13) (by kernel_rfl) (Ev.cells x) _ HC.out Tryz.underlying48 rfl (by kernel_rfl) ?_)
      | (show wpList _ _ _ (Oper.mk none (Op.store 48 _ _) _ _ _ _ :: _) _ _;refine wpList_store_own rfl 48 (.tmp 5) (.tmp 14) rfl wr.heap.size (Ev.cells x).toArray rfl rfl 48 (Ev.cells Ev.R0).toArray (heap_alloc_new _ _) (by kernel_rfl) (by kernel_rfl) (by kernel_rfl) ?_
         intro W1 HW1
         have B1:=qH (((Below.refl wr.heap.size wr).alloc (Nat.le_refl _) _).trans HW1.below)
         have c1:W1.cell? ⟨wr.heap.size,1,none⟩=some (.int .i64 x.k):=by rw [qC HW1.row];rfl
         have c2:W1.cell? ⟨wr.heap.size,2,none⟩=some (.int .u32 x.a):=by rw [qC HW1.row];rfl
         clear HW1)
      | (at_lookup;clear c1 c2;refine wpList_lookup_own_unit _ rfl _ _ 150 rfl 46 94 law_u32 Tryz.underlying150 (zero_unit _) (w.heap.size) k D1 rfl (HO1.out.kept (World.grownBy.but_of B1.out) (by simp)) _ _ rfl HKEY.out ?_;rw [HH.out]))
     go_ret
     exact⟨by rw [Ev.begun_false hlt HAH.out];rfl,((HBR.out.trans (B1.out.mono HBR.out.size)).alloc (Nat.le_trans HBR.out.size B1.out.size) _)⟩
    ·go_wp2_with (first
      | (show wpList _ _ _ (Oper.mk (some 14) _ _ _ _ _ :: _) _ _;refine wpList_load_at rfl 48 (.tmp 13) rfl g (o+k * 13) (by kernel_rfl) (Ev.cells x) _ HC.out Tryz.underlying48 rfl (by kernel_rfl) ?_)
      | (show wpList _ _ _ (Oper.mk none (Op.store 48 _ _) _ _ _ _ :: _) _ _;refine wpList_store_own rfl 48 (.tmp 5) (.tmp 14) rfl wr.heap.size (Ev.cells x).toArray rfl rfl 48 (Ev.cells Ev.R0).toArray (heap_alloc_new _ _) (by kernel_rfl) (by kernel_rfl) (by kernel_rfl) ?_
         intro W1 HW1
         have B1:=qH (((Below.refl wr.heap.size wr).alloc (Nat.le_refl _) _).trans HW1.below)
         have c1:W1.cell? ⟨wr.heap.size,1,none⟩=some (.int .i64 x.k):=by rw [qC HW1.row];rfl
         have c2:W1.cell? ⟨wr.heap.size,2,none⟩=some (.int .u32 x.a):=by rw [qC HW1.row];rfl
         clear HW1)
      | (at_lookup;clear c1 c2;refine wpList_lookup_own_unit _ rfl _ _ 150 rfl 46 94 law_u32 Tryz.underlying150 (zero_unit _) (w.heap.size) k D1 rfl (HO1.out.kept (World.grownBy.but_of B1.out) (by simp)) _ _ rfl HKEY.out ?_;rw [HH.out]))
     go_roundw
     case rel =>
      refine⟨k+1,by omega,by go_num,(H1.out.keep (World.grownBy.but_of B1.out) (by simp) (Nat.le_succ _) (fun y hy=>by rw [HTK.out,Ev.any_snoc,HB0.out y,Bool.or_false])).alloc _,?_,((HBR.out.trans (B1.out.mono HBR.out.size)).alloc (Nat.le_trans HBR.out.size B1.out.size) _),Nat.le_trans (Nat.le_trans HWS.out B1.out.size) (by simp only [World.size_alloc];omega)⟩
      intro j hj
      rcases Nat.lt_or_eq_of_le (Nat.le_of_lt_succ hj) with h | h
      ·exact HALL.out j h
      ·subst h;exact HAH.out
     case measure=>simp [intOf];omega
   ·have q5:(x.k==5)=false:=by rw [h5];rfl
    have q1:(x.k==1)=false:=by rw [h5];rfl
    have q2:(x.k==2)=false:=by rw [h5];rfl
    have q3:(x.k==3)=true:=by rw [h5];rfl
    clear h5
    have HB0:=qH (show ∀ y,Ev.isBeg y x=false from fun y=>by unfold Ev.isBeg;rw [q5];rfl)
    have HAT:=qH (show Ev.begunAt xs k=(xs.take k).any (Ev.isBeg x.a) by unfold Ev.begunAt;rw [HXN.out];unfold Ev.acc;rw [q1,q2,q3];rfl)
    obtain⟨h,hh⟩:∃ h,Maps.has D1 (.int .u32 x.a)=h:=⟨_,rfl⟩
    have HH:=qH hh
    have HAH:=qH (show Ev.begunAt xs k=h by rw [HAT.out,← HD1.out x.a HXA.out,hh])
    clear hh
    cases h
    ·go_wp2_with (first
      | (show wpList _ _ _ (Oper.mk (some 14) _ _ _ _ _ :: _) _ _;refine wpList_load_at rfl 48 (.tmp 13) rfl g (o+k * 13) (by kernel_rfl) (Ev.cells x) _ HC.out Tryz.underlying48 rfl (by kernel_rfl) ?_)
      | (show wpList _ _ _ (Oper.mk none (Op.store 48 _ _) _ _ _ _ :: _) _ _;refine wpList_store_own rfl 48 (.tmp 5) (.tmp 14) rfl wr.heap.size (Ev.cells x).toArray rfl rfl 48 (Ev.cells Ev.R0).toArray (heap_alloc_new _ _) (by kernel_rfl) (by kernel_rfl) (by kernel_rfl) ?_
         intro W1 HW1
         have B1:=qH (((Below.refl wr.heap.size wr).alloc (Nat.le_refl _) _).trans HW1.below)
         have c1:W1.cell? ⟨wr.heap.size,1,none⟩=some (.int .i64 x.k):=by rw [qC HW1.row];rfl
         have c2:W1.cell? ⟨wr.heap.size,2,none⟩=some (.int .u32 x.a):=by rw [qC HW1.row];rfl
         clear HW1)
      | (at_lookup;clear c1 c2;refine wpList_lookup_own_unit _ rfl _ _ 150 rfl 46 94 law_u32 Tryz.underlying150 (zero_unit _) (w.heap.size) k D1 rfl (HO1.out.kept (World.grownBy.but_of B1.out) (by simp)) _ _ rfl HKEY.out ?_;rw [HH.out]))
     go_ret
     exact⟨by rw [Ev.begun_false hlt HAH.out];rfl,((HBR.out.trans (B1.out.mono HBR.out.size)).alloc (Nat.le_trans HBR.out.size B1.out.size) _)⟩
    ·go_wp2_with (first
      | (show wpList _ _ _ (Oper.mk (some 14) _ _ _ _ _ :: _) _ _;refine wpList_load_at rfl 48 (.tmp 13) rfl g (o+k * 13) (by kernel_rfl) (Ev.cells x) _ HC.out Tryz.underlying48 rfl (by kernel_rfl) ?_)
      | (show wpList _ _ _ (Oper.mk none (Op.store 48 _ _) _ _ _ _ :: _) _ _;refine wpList_store_own rfl 48 (.tmp 5) (.tmp 14) rfl wr.heap.size (Ev.cells x).toArray rfl rfl 48 (Ev.cells Ev.R0).toArray (heap_alloc_new _ _) (by kernel_rfl) (by kernel_rfl) (by kernel_rfl) ?_
         intro W1 HW1
         have B1:=qH (((Below.refl wr.heap.size wr).alloc (Nat.le_refl _) _).trans HW1.below)
         have c1:W1.cell? ⟨wr.heap.size,1,none⟩=some (.int .i64 x.k):=by rw [qC HW1.row];rfl
         have c2:W1.cell? ⟨wr.heap.size,2,none⟩=some (.int .u32 x.a):=by rw [qC HW1.row];rfl
         clear HW1)
      | (at_lookup;clear c1 c2;refine wpList_lookup_own_unit _ rfl _ _ 150 rfl 46 94 law_u32 Tryz.underlying150 (zero_unit _) (w.heap.size) k D1 rfl (HO1.out.kept (World.grownBy.but_of B1.out) (by simp)) _ _ rfl HKEY.out ?_;rw [HH.out]))
     go_roundw
     case rel =>
      refine⟨k+1,by omega,by go_num,(H1.out.keep (World.grownBy.but_of B1.out) (by simp) (Nat.le_succ _) (fun y hy=>by rw [HTK.out,Ev.any_snoc,HB0.out y,Bool.or_false])).alloc _,?_,((HBR.out.trans (B1.out.mono HBR.out.size)).alloc (Nat.le_trans HBR.out.size B1.out.size) _),Nat.le_trans (Nat.le_trans HWS.out B1.out.size) (by simp only [World.size_alloc];omega)⟩
      intro j hj
      rcases Nat.lt_or_eq_of_le (Nat.le_of_lt_succ hj) with h | h
      ·exact HALL.out j h
      ·subst h;exact HAH.out
     case measure=>simp [intOf];omega
   ·obtain⟨n5,n1,n2,n3⟩:=h5
    have q5:(x.k==5)=false:=by simpa using n5
    have q1:(x.k==1)=false:=by simpa using n1
    have q2:(x.k==2)=false:=by simpa using n2
    have q3:(x.k==3)=false:=by simpa using n3
    clear n5 n1 n2 n3
    have HB0:=qH (show ∀ y,Ev.isBeg y x=false from fun y=>by unfold Ev.isBeg;rw [q5];rfl)
    have HAT:=qH (show Ev.begunAt xs k=true by unfold Ev.begunAt;rw [HXN.out];unfold Ev.acc;rw [q1,q2,q3];rfl)
    go_wp2_with (first
     | (show wpList _ _ _ (Oper.mk (some 14) _ _ _ _ _ :: _) _ _;refine wpList_load_at rfl 48 (.tmp 13) rfl g (o+k * 13) (by kernel_rfl) (Ev.cells x) _ HC.out Tryz.underlying48 rfl (by kernel_rfl) ?_)
     | (show wpList _ _ _ (Oper.mk none (Op.store 48 _ _) _ _ _ _ :: _) _ _;refine wpList_store_own rfl 48 (.tmp 5) (.tmp 14) rfl wr.heap.size (Ev.cells x).toArray rfl rfl 48 (Ev.cells Ev.R0).toArray (heap_alloc_new _ _) (by kernel_rfl) (by kernel_rfl) (by kernel_rfl) ?_
        intro W1 HW1
        have B1:=qH (((Below.refl wr.heap.size wr).alloc (Nat.le_refl _) _).trans HW1.below)
        have c1:W1.cell? ⟨wr.heap.size,1,none⟩=some (.int .i64 x.k):=by rw [qC HW1.row];rfl
        have c2:W1.cell? ⟨wr.heap.size,2,none⟩=some (.int .u32 x.a):=by rw [qC HW1.row];rfl
        clear HW1))
    go_roundw
    case rel =>
     refine⟨k+1,by omega,by go_num,H1.out.keep (World.grownBy.but_of B1.out) (by simp) (Nat.le_succ _) (fun y hy=>by rw [HTK.out,Ev.any_snoc,HB0.out y,Bool.or_false]),?_,HBR.out.trans (B1.out.mono HBR.out.size),Nat.le_trans HWS.out B1.out.size⟩
     intro j hj
     rcases Nat.lt_or_eq_of_le (Nat.le_of_lt_succ hj) with h | h
     ·exact HALL.out j h
     ·subst h;exact HAT.out
    case measure=>simp [intOf];omega
  ·have hki:¬ (k:Int) < (xs.length:Int):=by omega
   have HE:=qH (Ev.begun_true fun j hj=>HALL.out j (by omega))
   go_wp2
   go_ret
   exact⟨by rw [HE.out];rfl,HBR.out⟩
end Go.Proofs.YtnjnpbabgefaeaaGreat
end
