import Derived.Test.YtnjnpbabgefaeaaGreatKp53
import Derived.Test.YtnjnpbabgefaeaaGreatKp44
import Derived.Test.YtnjnpbabgefaeaaGreatKp22
import Derived.Test.YtnjnpbabgefaeaaGreatKp52
import Derived.Test.YtnjnpbabgefaeaaGreatKp51
import Derived.StillTailTactics
import Derived.Deep.QuietTactic
import Derived.BigQuiet
import Derived.Test.YtnjnpbabgefaeaaGreatKpH
set_option maxRecDepth 100000
set_option maxHeartbeats 8000000
set_option linter.unusedVariables false
set_option linter.unusedSimpArgs false
section
namespace Go.Proofs.YtnjnpbabgefaeaaGreat
open Go.RowKit
namespace Og
structure Halt (p:Prop):Prop where
 out:p
end Og
namespace Md
open Ev
def fl (f:Nat→Bool) (k:Nat):List Nat:=(List.range k).filter f
theorem fl_len (f:Nat→Bool) (k:Nat):(fl f k).length≤k:=Nat.le_trans (List.length_filter_le _ _) (by simp)
theorem fl_succ (f:Nat→Bool) (k:Nat):fl f (k+1)=fl f k++if f k then [k] else []:=by
 unfold fl;rw [List.range_succ,List.filter_append];cases h:f k <;> simp [h]
theorem fl_yes {f:Nat→Bool} {k:Nat} (h:f k=true):fl f (k+1)=fl f k++[k]:=by rw [fl_succ,h];rfl
theorem fl_no {f:Nat→Bool} {k:Nat} (h:f k=false):fl f (k+1)=fl f k:=by rw [fl_succ,h];simp
theorem IntRow.form {W:World} {base:Nat} {v:Value} {l:List Nat} (h:IntRow W base v l):∃ a c,v=.slice a l.length c:=by
 rcases h.2 with ⟨e1,e2⟩ | ⟨g,cap,cur,e1,_⟩
 ·exact⟨none,0,by rw [e1,e2]⟩
 ·exact⟨_,_,e1⟩
theorem fl_row {W:World} {base:Nat} {v:Value} {l:List Nat} {k:Nat} (h:W.ownsRow base 3 1 v (l.length+1) (((cI l).map fun n=>Value.int .i64 n)++[.int .i64 (k:Int)])):IntRow W base v (l++[k]):=by
 unfold IntRow
 simpa [cI] using h
end Md
theorem rbyax_any (x:Ev.X) (hc:Ev.check x=0) (w:World) (hin:Ev.XIn w x) :
 Calls Tryz.prog 16 #[Ev.exV x] w fun e w'=>e=.returned (.bool (Md.atomB x&&Md.byOrd x))∧Below w.heap.size w w':=by
 have hn64:=(Ev.check_order hc).2.2
 have hl1:=hin.ev.le;have hl2:=hin.ev.max
 obtain⟨xb,hxb⟩:∃ xb,xb=w.heap.size:=⟨_,rfl⟩
 obtain⟨B,hB⟩:∃ B,B=w.alloc (.cells (Ev.xcells x).toArray 26):=⟨_,rfl⟩
 have HB:=qH hB;have HXB:=qH hxb
 have B0:=qH (show Below w.heap.size w B by rw [hB];exact(Below.refl w.heap.size w).alloc (Nat.le_refl _) _)
 have RX:=qH (show B.heap[xb]?=some (.cells #[.slice x.ae x.ev.length x.ce,.slice x.fr.a x.fr.l.length x.fr.c,.slice x.ao x.od.length x.co] 26 (0,0)) by rw [hB,hxb];exact heap_alloc_new _ _)
 have HX:=qH (show Ev.XIn B x from hin.kp (Ev.kp_below B0.out))
 have HC:=qH hc
 obtain⟨i0,hi,hz0,hz1,hz2⟩:=info_int
 have HI:=qH hi;have HZ0:=qH hz0;have HZ1:=qH hz1;have HZ2:=qH hz2
 obtain⟨f5,hf5⟩:∃ f:Nat→Bool,f=fun a:Nat=>(Ev.nth x.ev a).k==5:=⟨_,rfl⟩
 obtain⟨f4,hf4⟩:∃ f:Nat→Bool,f=fun a:Nat=>!((Ev.nth x.ev a).k==4):=⟨_,rfl⟩
 have HF5:=qH hf5;have HF4:=qH hf4
 clear hin hB hxb hc hi hz0 hz1 hz2 hf5 hf4
 unfold Ev.exV
 go_enter Tryz.func16,Tryz.ntmps16
 go_wp2
 rw [← HB.out,← HXB.out]
 go_loopw [3,4,5] (fun vb va i wr=>∃ k:Nat,k≤x.ev.length∧i=.int .i64 (k:Int)∧Md.IntRow wr B.heap.size vb (Md.fl f5 k)∧Md.IntRow wr B.heap.size va (Md.fl f4 k)∧Md.Apt vb va∧Below B.heap.size B wr) (fun _ _ i _=>x.ev.length - (intOf i).toNat)
 case atStart=>exact⟨0,Nat.zero_le _,rfl,World.ownsRow_nil _ _ _ _,World.ownsRow_nil _ _ _ _,.inl rfl,Below.refl _ _⟩
 case round =>
  obtain⟨k,hk,rfl,hrb,hra,hapt,hbr⟩:=hrel
  have HRB:=qH hrb;have HRA:=qH hra;have HAP:=qH hapt;have HBR:=qH hbr
  clear hrb hra hapt hbr
  by_cases hlt:k < x.ev.length
  ·have hki:(k:Int) < (x.ev.length:Int):=by omega
   obtain⟨e1,he1⟩:∃ e,x.ev[k]?=some e:=⟨_,List.getElem?_eq_getElem hlt⟩
   obtain⟨g,o,eg,hc1⟩:=HX.out.ev.at_ he1
   have hn1:=Ev.nth_some he1
   have R4:=qH ((HBR.out.block _ (qL RX.out)).trans RX.out)
   have HEG:=qH eg
   have cx:wr.cell? ⟨xb,0,none⟩=some (.slice (some ⟨g,o,none⟩) x.ev.length x.ce):=by rw [qC R4.out,← eg];rfl
   have ck:=Ev.kp_below HBR.out _ _ (hc1 1 _ rfl)
   have HCK:=qH (hc1 1 _ rfl)
   have V5:=qH (show f5 k=(e1.k==5) by rw [HF5.out];show((Ev.nth x.ev k).k==5)=_;rw [hn1])
   have V4:=qH (show f4 k=!(e1.k==4) by rw [HF4.out];show(!((Ev.nth x.ev k).k==4))=_;rw [hn1])
   clear he1 eg hn1 hc1
   by_cases h4:e1.k=4
   ·have N4:=qH (Md.fl_no (show f4 k=false by rw [V4.out];simp [h4]))
    have N5:=qH (Md.fl_no (show f5 k=false by rw [V5.out];simp [h4]))
    go_wp2_with fail
    first
     | exact⟨⟨k+1,by omega,by go_num,by rw [N5.out];exact HRB.out,by rw [N4.out];exact HRA.out,HAP.out,HBR.out⟩,by simp [intOf];omega⟩
     | (go_roundw
        case rel=>exact⟨k+1,by omega,by go_num,by rw [N5.out];exact HRB.out,by rw [N4.out];exact HRA.out,HAP.out,HBR.out⟩
        case measure=>simp [intOf];omega)
   ·have N4:=qH (Md.fl_yes (show f4 k=true by rw [V4.out];simp [h4]))
    by_cases h5:e1.k=5
    ·have N5:=qH (Md.fl_yes (show f5 k=true by rw [V5.out];simp [h5]))
     go_wp2_with (first
      | ((with_reducible refine qG 23 ?_);refine wpList_append_own_at _ rfl (.tmp 20) (.tmp 22) 23 rfl B.heap.size 3 i0 (.int .i64 0) 1 8 Tryz.underlying23 HI.out HZ0.out HZ1.out HZ2.out rfl (by decide) u4 _ _ rfl (HRA.out.alloc _) ⟨wr.heap.size,0,none⟩ 1 1 [.int .i64 (k:Int)] rfl rfl (fun j u hu=>World.news_of_block (heap_alloc_new wr _) j u hu) (Md.one_int k) (by have:=Md.fl_len f4 k;unfold maxLen;omega) (by have:=Md.fl_len f4 k;omega) (by have:=HBR.out.size;simp only [World.size_alloc];omega) ?_;intro u1 W1 hown1 hgrow1 _ hat1;have HO1:=qH (Md.fl_row hown1);have HG1:=qH hgrow1;have HA1:=qH hat1;have HB1:=qH (Below.grown (HBR.out.alloc HBR.out.size _) hgrow1 (by have:=HBR.out.size;simp only [World.size_alloc];omega) (fun k hk=>Ev.own_ge HRA.out hk));have cx1:W1.cell? ⟨xb,0,none⟩=some (.slice (some ⟨g,o,none⟩) x.ev.length x.ce):=(by rw [qC ((HB1.out.block _ (qL RX.out)).trans RX.out),← HEG.out];rfl);have ck1:=Ev.kp_below HB1.out _ _ HCK.out;clear hown1 hgrow1 hat1;have HRB1:=qH (show Md.IntRow W1 B.heap.size u3 (Md.fl f5 k) from World.ownsRow.kept (HRB.out.alloc _) HG1.out HAP.out);have HAP1:=qH (show Md.Apt u3 u1 from Md.apt_symm (Md.apt_app (Md.apt_symm HAP.out) HA1.out (HRB.out.alloc _))))
      | ((with_reducible refine qG 34 ?_);refine wpList_append_own_at _ rfl (.tmp 31) (.tmp 33) 23 rfl B.heap.size 3 i0 (.int .i64 0) 1 8 Tryz.underlying23 HI.out HZ0.out HZ1.out HZ2.out rfl (by decide) u3 _ _ rfl (HRB1.out.alloc _) ⟨W1.heap.size,0,none⟩ 1 1 [.int .i64 (k:Int)] rfl rfl (fun j u hu=>World.news_of_block (heap_alloc_new W1 _) j u hu) (Md.one_int k) (by have:=Md.fl_len f5 k;unfold maxLen;omega) (by have:=Md.fl_len f5 k;omega) (by have:=HB1.out.size;simp only [World.size_alloc];omega) ?_;intro u2 W2 hown2 hgrow2 _ hat2;have HO2:=qH (Md.fl_row hown2);have HG2:=qH hgrow2;have HA2:=qH hat2;have HB2:=qH (Below.grown (HB1.out.alloc HB1.out.size _) hgrow2 (by have:=HB1.out.size;simp only [World.size_alloc];omega) (fun k hk=>Ev.own_ge HRB1.out hk));have cx2:W2.cell? ⟨xb,0,none⟩=some (.slice (some ⟨g,o,none⟩) x.ev.length x.ce):=(by rw [qC ((HB2.out.block _ (qL RX.out)).trans RX.out),← HEG.out];rfl);have ck2:=Ev.kp_below HB2.out _ _ HCK.out;clear hown2 hgrow2 hat2))
     have HO12:=qH (show Md.IntRow W2 B.heap.size u1 (Md.fl f4 k++[k]) from World.ownsRow.kept (HO1.out.alloc _) HG2.out (Md.apt_symm HAP1.out))
     have HAP2:=qH (show Md.Apt u2 u1 from Md.apt_app HAP1.out HA2.out (HO1.out.alloc _))
     first
      | exact⟨⟨k+1,by omega,by go_num,by rw [N5.out];exact HO2.out,by rw [N4.out];exact HO12.out,HAP2.out,HB2.out⟩,by simp [intOf];omega⟩
      | (go_roundw
         case rel=>exact⟨k+1,by omega,by go_num,by rw [N5.out];exact HO2.out,by rw [N4.out];exact HO12.out,HAP2.out,HB2.out⟩
         case measure=>simp [intOf];omega)
    ·have N5:=qH (Md.fl_no (show f5 k=false by rw [V5.out];simp [h5]))
     go_wp2_with ((with_reducible refine qG 23 ?_);refine wpList_append_own_at _ rfl (.tmp 20) (.tmp 22) 23 rfl B.heap.size 3 i0 (.int .i64 0) 1 8 Tryz.underlying23 HI.out HZ0.out HZ1.out HZ2.out rfl (by decide) u4 _ _ rfl (HRA.out.alloc _) ⟨wr.heap.size,0,none⟩ 1 1 [.int .i64 (k:Int)] rfl rfl (fun j u hu=>World.news_of_block (heap_alloc_new wr _) j u hu) (Md.one_int k) (by have:=Md.fl_len f4 k;unfold maxLen;omega) (by have:=Md.fl_len f4 k;omega) (by have:=HBR.out.size;simp only [World.size_alloc];omega) ?_;intro u1 W1 hown1 hgrow1 _ hat1;have HO1:=qH (Md.fl_row hown1);have HG1:=qH hgrow1;have HA1:=qH hat1;have HB1:=qH (Below.grown (HBR.out.alloc HBR.out.size _) hgrow1 (by have:=HBR.out.size;simp only [World.size_alloc];omega) (fun k hk=>Ev.own_ge HRA.out hk));have cx1:W1.cell? ⟨xb,0,none⟩=some (.slice (some ⟨g,o,none⟩) x.ev.length x.ce):=(by rw [qC ((HB1.out.block _ (qL RX.out)).trans RX.out),← HEG.out];rfl);have ck1:=Ev.kp_below HB1.out _ _ HCK.out;clear hown1 hgrow1 hat1;have HRB1:=qH (show Md.IntRow W1 B.heap.size u3 (Md.fl f5 k) from World.ownsRow.kept (HRB.out.alloc _) HG1.out HAP.out);have HAP1:=qH (show Md.Apt u3 u1 from Md.apt_symm (Md.apt_app (Md.apt_symm HAP.out) HA1.out (HRB.out.alloc _))))
     first
      | exact⟨⟨k+1,by omega,by go_num,by rw [N5.out];exact HRB1.out,by rw [N4.out];exact HO1.out,HAP1.out,HB1.out⟩,by simp [intOf];omega⟩
      | (go_roundw
         case rel=>exact⟨k+1,by omega,by go_num,by rw [N5.out];exact HRB1.out,by rw [N4.out];exact HO1.out,HAP1.out,HB1.out⟩
         case measure=>simp [intOf];omega)
  ·have hke:k=x.ev.length:=by omega
   have hki:¬ (k:Int) < (x.ev.length:Int):=by omega
   have hb5:=HRB.out;have ha4:=HRA.out
   have e5:Md.fl f5 k=Md.begs x:=by rw [hke,HF5.out];rfl
   have e4:Md.fl f4 k=Md.accs x:=by rw [hke,HF4.out];rfl
   rw [e5] at hb5;rw [e4] at ha4
   obtain⟨a1,c1,ev1⟩:=Md.IntRow.form hb5
   obtain⟨a2,c2,ev2⟩:=Md.IntRow.form ha4
   subst ev1;subst ev2
   have HR5:=qH hb5;have HR4:=qH ha4
   have R4:=qH ((HBR.out.block _ (qL RX.out)).trans RX.out)
   have hfl:=check_from HC.out
   have hbn:∀ a ∈ Md.begs x,a < x.ev.length:=fun a h=>(Md.mem_begs.1 h).1
   have han:∀ a ∈ Md.accs x,a < x.ev.length:=fun a h=>by unfold Md.accs at h;exact List.mem_range.1 (List.mem_filter.1 h).1
   have hln:(Md.accs x).length≤64:=Nat.le_trans (List.length_filter_le _ _) (by simp;omega)
   have hle:(Md.begs x).length≤(Md.accs x).length:=Md.len_le_of_sub (Md.nodup_begs x) (fun a h=>Md.begs_accs h)
   have KS:=qH (fun (W:World) (hw:Below wr.heap.size wr W)=>rsome_any x (Md.accs x) hfl han (by omega) (by omega) ((Md.accs x).length - (Md.begs x).length) (Md.begs x) a1 a2 c1 c2 W (by omega) hbn (HX.out.kp (Ev.kp_below (HBR.out.trans (hw.mono HBR.out.size)))) ((Md.IntRow.ints HR5.out (fun q hq=>by have:=hbn q hq;omega)).kp (Ev.kp_below hw)) ((Md.IntRow.ints HR4.out (fun q hq=>by have:=han q hq;omega)).kp (Ev.kp_below hw)))
   obtain⟨b,hb⟩:∃ b,Md.atomB x=b:=⟨_,rfl⟩
   obtain⟨b2,hb2⟩:∃ b,Md.byOrd x=b:=⟨_,rfl⟩
   have HBB:=qH hb;have HB2:=qH hb2
   have KT:=qH (fun (W:World) (hw:Below wr.heap.size wr W)=>ratomic_any x W (HX.out.kp (Ev.kp_below (HBR.out.trans (hw.mono HBR.out.size)))) HC.out)
   have hcx:wr.cell? ⟨xb,0,none⟩=some (.slice x.ae x.ev.length x.ce):=by rw [qC R4.out];rfl
   clear hb5 ha4 e5 e4 hke hfl hbn han hln hle hb hb2 HRB HRA HAP
   go_wp2_with (first
    | ((with_reducible refine qG 35 ?_);refine wpList_load_row rfl 26 (.tmp 1) rfl xb (by kernel_rfl) 26 #[.slice x.ae x.ev.length x.ce,.slice x.fr.a x.fr.l.length x.fr.c,.slice x.ao x.od.length x.co] (0,0) _ R4.out Tryz.underlying26 rfl (by kernel_rfl) ?_)
    | (go_at_call 20;refine(KT.out _ (Below.refl _ _)).mono ?_;rintro e W1 ⟨rfl,hb1⟩;rw [HBB.out];have B1:=qH hb1;clear hb1;refine Og.Halt.out ?_))
   refine⟨?_⟩
   cases b
   ·go_wp2_with fail
    go_ret
    exact⟨by rw [HBB.out];rfl,B0.out.trans ((HBR.out.trans (B1.out.mono HBR.out.size)).mono B0.out.size)⟩
   ·have R5:=qH ((B1.out.block _ (qL R4.out)).trans R4.out)
    go_wp2_with (first
     | ((with_reducible refine qG 38 ?_);refine Ev.load_row_g 26 (.tmp 1) rfl rfl xb (by kernel_rfl) 26 #[.slice x.ae x.ev.length x.ce,.slice x.fr.a x.fr.l.length x.fr.c,.slice x.ao x.od.length x.co] (0,0) _ R5.out Tryz.underlying26 rfl (by kernel_rfl) ?_)
     | (go_at_call 36;refine(KS.out _ B1.out).mono ?_;rintro e W2 ⟨rfl,hb2⟩;have B2:=qH (B1.out.trans (hb2.mono B1.out.size));clear hb2))
    go_ret
    exact⟨by rw [HBB.out];rfl,B0.out.trans ((HBR.out.trans (B2.out.mono HBR.out.size)).mono B0.out.size)⟩
end Go.Proofs.YtnjnpbabgefaeaaGreat
end
section
namespace Go.Proofs.YtnjnpbabgefaeaaGreat
open Go.RowKit
namespace Md
open Ev
theorem int_row {W:World} {base:Nat} {a:Option Addr} {c:Nat} {l:List Nat} (h:IntRow W base (.slice a l.length c) l):W.ownsRow base 3 1 (Ev.Sl.v ⟨a,c,cI l⟩) (cI l).length ((cI l).map nv):=by
 have e:(cI l).length=l.length:=by simp [cI]
 unfold IntRow at h
 unfold Ev.Sl.v
 rw [e]
 exact h
theorem prow_addr {W:World} {base n c:Nat} {a:Option Addr} {l:List Nat} (h:IntRow W base (.slice a n c) l) (hl:0 < l.length):∃ g,a=some ⟨g,0,none⟩∧base≤g∧g < W.heap.size:=by
 rcases h.2 with ⟨_,e2⟩ | ⟨g,cap,cur,e1,hb,hg,_⟩
 ·omega
 ·have:a=some ⟨g,0,none⟩:=by simpa using (by injection e1:a=some ⟨g,0,none⟩)
  exact⟨g,this,hb,(qL hg)⟩
structure PrI (w W:World) (B:Nat) (x:X) (lv:Value) (l:List Nat):Prop where
 lay:Lay w W B x
 row:IntRow W w.heap.size lv l
 apt:Ev.Apt lv x.fr.v
 od:x.od=[]
variable {w W:World} {B:Nat} {x:X} {lv:Value} {l:List Nat}
theorem PrI.pushL (h:PrI w W B x lv l) {k:Nat} {tmp:Obj} {v':Value} {w1:World} (hown:IntRow w1 w.heap.size v' (l++[k])) (hgrow:(W.alloc tmp).grownBy w1 lv.ownBlock)
 (hat:v'.ownBlock=lv.ownBlock∨v'.ownBlock=some (W.alloc tmp).heap.size):PrI w w1 B x v' (l++[k]):=by
 have hBl:B < W.heap.size:=(qL h.lay.box)
 have hne:=row_ne_box h.row h.lay.box (by decide)
 have hsz:=h.lay.bel.size
 refine⟨⟨Below.grown (h.lay.bel.alloc hsz tmp) hgrow (by simp;omega) (row_lo h.row),h.lay.lo,?_,?_,?_,?_,fun b s hs=>?_,fun b s hs=>?_,fun b c s t hs=>?_,h.lay.num,h.lay.fri,h.lay.odi⟩,hown,?_,h.od⟩
 ·rw [hgrow.block B (by simp;omega) (fun e=>hne e.symm),alloc_old _ hBl];exact h.lay.box
 ·exact World.ownsRow.kept (h.lay.ev.alloc tmp) hgrow (row_ne_row h.lay.ev h.row (by decide))
 ·exact World.ownsRow.kept (h.lay.fr.alloc tmp) hgrow (Ev.Apt.symm h.apt)
 ·exact World.ownsRow.kept (h.lay.od.alloc tmp) hgrow (row_ne_row h.lay.od h.row (by decide))
 ·rw [h.od] at hs;simp at hs
 ·rw [h.od] at hs;simp at hs
 ·rw [h.od] at hs;simp at hs
 ·unfold Ev.Apt
  rcases hat with e | e
  ·rw [e];exact h.apt
  ·rw [e];refine .inr fun e2=>?_
   have:=(h.lay.fr.lt _ e2.symm).2
   simp at this;omega
theorem PrI.ev (h:PrI w W B x lv l) {tmp:Obj} {v':Value} {w1:World} (hgrow:(W.alloc tmp).grownBy w1 (evsV x).ownBlock) {x':X} (hl:Lay w (w1.setCell ⟨B,0,none⟩ v') B x') (h1:x'.fr=x.fr) (h2:x'.od=x.od):PrI w (w1.setCell ⟨B,0,none⟩ v') B x' lv l :=
 ⟨hl,(mv_of hgrow).row h.row (row_ne_row h.row h.lay.ev (by decide)) (row_ne_box h.row h.lay.box (by decide)),by rw [h1];exact h.apt,by rw [h2];exact h.od⟩
theorem PrI.fr (h:PrI w W B x lv l) {tmp:Obj} {v':Value} {w1:World} (hgrow:(W.alloc tmp).grownBy w1 x.fr.v.ownBlock) (hat:v'.ownBlock=x.fr.v.ownBlock∨v'.ownBlock=some (W.alloc tmp).heap.size) {x':X} (hl:Lay w (w1.setCell ⟨B,1,none⟩ v') B x') (h1:x'.fr.v=v') (h2:x'.od=x.od):PrI w (w1.setCell ⟨B,1,none⟩ v') B x' lv l:=by
 refine⟨hl,(mv_of hgrow).row h.row h.apt (row_ne_box h.row h.lay.box (by decide)),?_,by rw [h2];exact h.od⟩
 rw [h1]
 rcases hat with e | e
 ·unfold Ev.Apt;rw [e];exact h.apt
 ·refine .inr ?_
  rw [e];intro e2
  have:=(h.row.lt _ e2).2
  simp at this;omega
theorem PrI.kp (h:PrI w W B x lv l) {W':World} (hb:Below W.heap.size W W'):PrI w W' B x lv l:=⟨h.lay.kp hb,row_kp h.row hb,h.apt,h.od⟩
theorem PrI.close (h:PrI w W B x lv l) {a:Option Addr} {c:Nat} (ha:lv=.slice a l.length c) (hli:∀ q ∈ l,q≤1000) :
 Lay w ((W.alloc (.cells #[lv] 23)).setCell ⟨B,2,none⟩ (.slice (some ⟨W.heap.size,0,none⟩) 1 1)) B ⟨x.ae,x.ce,x.ev,x.fr,some ⟨W.heap.size,0,none⟩,1,[⟨a,c,cI l⟩]⟩:=by
 subst ha
 have hsz:=h.lay.bel.size
 have hcl:(cI l).length=l.length:=by simp [cI]
 have hlv:Ev.Sl.v ⟨a,c,cI l⟩=.slice a l.length c:=by unfold Ev.Sl.v;rw [hcl]
 have hown:(W.alloc (.cells #[.slice a l.length c] 23)).ownsRow w.heap.size 23 1 (.slice (some ⟨W.heap.size,0,none⟩) (x.od.length+1) 1) (x.od.length+1) (x.od.map Sl.v++[Ev.Sl.v ⟨a,c,cI l⟩]):=by
  rw [h.od,hlv]
  exact⟨rfl,.inr ⟨W.heap.size,1,#[.slice a l.length c],rfl,hsz,heap_alloc_new W _,Nat.le_refl _,by decide,rfl,rfl⟩⟩
 obtain⟨a',c',e,_,hl⟩:=h.lay.pushRow (s:=⟨a,c,cI l⟩) (int_row h.row) (by rw [hlv];exact h.apt) (fun b t ht=>by rw [h.od] at ht;simp at ht) (fun n hn=>by
  obtain⟨q,hq,rfl⟩:=List.mem_map.1 hn
  have:=hli q hq
  unfold i64B;omega) hown ⟨rfl,rfl,rfl,Nat.le_refl _,fun k hk _=>rfl⟩
 rw [h.od] at hl e
 obtain⟨rfl,rfl⟩:a'=some ⟨W.heap.size,0,none⟩∧c'=1:=by
  injection e with e1 _ e3
  exact⟨e1.symm,e3.symm⟩
 exact hl
end Md
namespace Ev
variable {w W:World} {B:Nat} {x:X}
theorem Lay.frSome (h:Lay w W B x) (hl:0 < x.fr.l.length):∃ g,x.fr.a=some ⟨g,0,none⟩:=by
 rcases h.fr.2 with ⟨_,e⟩ | ⟨g,cap,cur,e,_⟩
 ·omega
 ·exact⟨g,by unfold Sl.v at e;simp at e;exact e.1⟩
theorem Lay.evSome (h:Lay w W B x) (hl:0 < x.ev.length):∃ g,x.ae=some ⟨g,0,none⟩:=by
 rcases h.ev.2 with ⟨_,e⟩ | ⟨g,cap,cur,e,_⟩
 ·omega
 ·exact⟨g,by unfold evsV at e;simp at e;exact e.1⟩
theorem row_thaw {W:World} {base g n cap:Nat} {e:TypeId} {sz:Nat} {xs:List Value} (h:W.ownsRow base e sz (.slice (some ⟨g,0,none⟩) n cap) n xs) (j:Nat):W.frozen? ⟨g,j,none⟩=false:=by
 rcases h.2 with ⟨e,_⟩ | ⟨g',cap',cur,e,_,hh,_⟩
 ·simp at e
 ·obtain⟨rfl,_⟩:g=g'∧cap=cap':=by simpa using e
  simp [World.frozen?,hh]
theorem Lay.frCell (h:Lay w W B x) {g:Nat} (hg:x.fr.a=some ⟨g,0,none⟩) {k:Nat} {v:Int} (hk:x.fr.l[k]?=some v):W.cell? ⟨g,k,none⟩=some (.int .i64 v)∧W.frozen? ⟨g,k,none⟩=false:=by
 obtain⟨g',o',e',hc⟩:=h.xin.fr.at_ hk
 rw [hg] at e'
 obtain⟨rfl,rfl⟩:g=g'∧0=o':=by simpa using e'
 have hr:=h.fr
 unfold Sl.v at hr
 rw [hg] at hr
 exact⟨by simpa using hc,row_thaw hr k⟩
theorem Lay.evCell (h:Lay w W B x) {g:Nat} (hg:x.ae=some ⟨g,0,none⟩) {k i:Nat} {y:R} {v:Value} (hk:x.ev[k]?=some y) (hi:(cells y)[i]?=some v):W.cell? ⟨g,k * 13+i,none⟩=some v∧W.frozen? ⟨g,k * 13+i,none⟩=false:=by
 obtain⟨g',o',e',hc⟩:=h.xin.ev.at_ hk
 rw [hg] at e'
 obtain⟨rfl,rfl⟩:g=g'∧0=o':=by simpa using e'
 have hr:=h.ev
 unfold evsV at hr
 rw [hg] at hr
 have:=hc i v hi
 exact⟨by simpa using this,row_thaw hr _⟩
theorem own_fr {g:Nat} (hg:x.fr.a=some ⟨g,0,none⟩):x.fr.v.ownBlock=some g:=by unfold Sl.v;rw [hg];rfl
theorem own_ev {g:Nat} (hg:x.ae=some ⟨g,0,none⟩):(evsV x).ownBlock=some g:=by unfold evsV;rw [hg];rfl
theorem Lay.setFr (h:Lay w W B x) {g k:Nat} (hg:x.fr.a=some ⟨g,0,none⟩) {n:Int} (hn:i64B n):Lay w (W.setCell ⟨g,k,none⟩ (.int .i64 n)) B ⟨x.ae,x.ce,x.ev,⟨x.fr.a,x.fr.c,x.fr.l.set k n⟩,x.ao,x.co,x.od⟩:=by
 have hb:=own_fr hg
 have hG:W.grownBy (W.setCell ⟨g,k,none⟩ (.int .i64 n)) x.fr.v.ownBlock:=by rw [hb];exact grown_set W g k _
 have hBl:B < W.heap.size:=(qL h.box)
 have hlen:(x.fr.l.set k n).length=x.fr.l.length:=List.length_set
 refine⟨Below.grown h.bel hG h.bel.size (row_lo h.fr),h.lo,?_,h.ev.kept hG (row_ne_row h.ev h.fr (by decide)),?_,h.od.kept hG (row_ne_row h.od h.fr (by decide)),fun b s hs=>(h.row b s hs).kept hG (h.dis b s hs),fun b s hs=>?_,h.dis2,h.num,fun m hm=>?_,h.odi⟩
 ·rw [hG.block B hBl (fun e=>h.bne.2.1 e.symm),h.box];unfold xcells;simp only [hlen]
 ·have hr:=h.fr
  show World.ownsRow _ _ _ _ (.slice x.fr.a (x.fr.l.set k n).length x.fr.c) (x.fr.l.set k n).length ((x.fr.l.set k n).map nv)
  rw [hlen,List.map_set]
  unfold Sl.v at hr
  rw [hg] at hr ⊢
  exact Md.row_put _ hr
 ·show Apt s.v (Value.slice x.fr.a (x.fr.l.set k n).length x.fr.c)
  rw [hlen];exact h.dis b s hs
 ·rcases List.mem_or_eq_of_mem_set hm with hm | rfl
  ·exact h.fri m hm
  ·exact hn
theorem Lay.setEv (h:Lay w W B x) {g k i:Nat} (hg:x.ae=some ⟨g,0,none⟩) {y y':R} {v:Value} (hk:x.ev[k]?=some y) (hi:i < 13) (hy:cells y'=(cells y).set i v) (hok:∀ V,ROk V y') :
 Lay w (W.setCell ⟨g,k * 13+i,none⟩ v) B ⟨x.ae,x.ce,x.ev.set k y',x.fr,x.ao,x.co,x.od⟩:=by
 have hb:=own_ev hg
 have hG:W.grownBy (W.setCell ⟨g,k * 13+i,none⟩ v) (evsV x).ownBlock:=by rw [hb];exact grown_set W g _ _
 have hBl:B < W.heap.size:=(qL h.box)
 have hlen:(x.ev.set k y').length=x.ev.length:=List.length_set
 refine⟨Below.grown h.bel hG h.bel.size (row_lo h.ev),h.lo,?_,?_,h.fr.kept hG (row_ne_row h.fr h.ev (by decide)),h.od.kept hG (row_ne_row h.od h.ev (by decide)),fun b s hs=>(h.row b s hs).kept hG (row_ne_row (h.row b s hs) h.ev (by decide)),h.dis,h.dis2,fun z hz=>?_,h.fri,h.odi⟩
 ·rw [hG.block B hBl (fun e=>h.bne.1 e.symm),h.box];unfold xcells;simp only [hlen]
 ·have hr:=h.ev
  show World.ownsRow _ _ _ _ (.slice x.ae (x.ev.set k y').length x.ce) (x.ev.set k y').length ((x.ev.set k y').map cells).flatten
  rw [hlen,← Md.flat_set x.ev k i y y' v hk hi hy]
  unfold evsV at hr
  rw [hg] at hr ⊢
  exact Md.row_put _ hr
 ·rcases List.mem_or_eq_of_mem_set hz with hz | rfl
  ·exact h.num z hz
  ·exact hok
end Ev
end Go.Proofs.YtnjnpbabgefaeaaGreat
end
section
namespace Go.Proofs.YtnjnpbabgefaeaaGreat
open Go.Joins Go.ChangeShapes Go.WideShapes Go.ChangeAt Go.RowKit Go.Deep
theorem u8_le {n:Int} (h:(Lit.int .u8 n).wf=true):0≤n∧n≤255:=by
 have h1:IntKind.u8.min=0:=by decide
 have h2:IntKind.u8.max=255:=by decide
 simp only [Lit.wf,h1,h2,Bool.and_eq_true,decide_eq_true_eq] at h;exact h
theorem pr_info_event:∃ i,Tryz.prog.info? 48=some i∧i.zero=some (.agg (Ev.cells Ev.R0).toArray)∧i.size=13∧i.bytes=128:=⟨_,rfl,by kernel_rfl,by kernel_rfl,by kernel_rfl⟩
theorem ev_one (y:Ev.R):∀ u ∈ Ev.cells y,u.oneCell'=true:=by
 intro u hu
 unfold Ev.cells at hu
 simp only [List.mem_cons,List.not_mem_nil,or_false] at hu
 rcases hu with rfl | rfl | rfl | rfl | rfl | rfl | rfl | rfl | rfl | rfl | rfl | rfl | rfl <;> rfl
theorem nv_one' (n:Int):∀ u ∈ [Ev.nv n],u.oneCell'=true:=by
 intro u hu
 obtain rfl:u=Ev.nv n:=by simpa using hu
 rfl
namespace Md
open Ev
theorem noS_in (V:World):IntsIn V noS:=⟨fun hp=>absurd hp (by decide),Nat.le_refl _,by decide,fun n hn=>by cases hn⟩
theorem prE_ok {r:Int} (hr:u32B r) (i:Nat) (hi:i≤4):∀ y ∈ prE r i,∀ V,ROk V y:=by
 intro y hy V
 have hn:=noS_in V
 unfold prE at hy
 have hy':y=begE 0∨y=lrE r∨y=scE∨∃ k,k < i∧y=otE k:=by
  rcases List.mem_append.1 hy with h | h
  ·simp only [List.mem_cons,List.not_mem_nil,or_false] at h
   rcases h with h | h | h
   ·exact .inl h
   ·exact .inr (.inl h)
   ·exact .inr (.inr (.inl h))
  ·obtain⟨k,hk,rfl⟩:=List.mem_map.1 h
   exact .inr (.inr (.inr ⟨k,List.mem_range.1 hk,rfl⟩))
 rcases hy' with rfl | rfl | rfl | ⟨k,hk,rfl⟩
 ·exact⟨(show i64B (-1) by unfold i64B;omega),(show i64B 5 by unfold i64B;omega),(show u32B 0 by unfold u32B;omega),(show u32B 0 by unfold u32B;omega),(show u32B 0 by unfold u32B;omega),(show i64B 0 by unfold i64B;omega),(show i64B 0 by unfold i64B;omega),hn,hn,hn⟩
 ·exact⟨(show i64B 0 by unfold i64B;omega),(show i64B 1 by unfold i64B;omega),(show u32B 0 by unfold u32B;omega),(show u32B 0 by unfold u32B;omega),hr,(show i64B 0 by unfold i64B;omega),(show i64B 0 by unfold i64B;omega),hn,hn,hn⟩
 ·exact⟨(show i64B 0 by unfold i64B;omega),(show i64B 2 by unfold i64B;omega),(show u32B 0 by unfold u32B;omega),(show u32B 9 by unfold u32B;omega),(show u32B 0 by unfold u32B;omega),(show i64B 0 by unfold i64B;omega),(show i64B 0 by unfold i64B;omega),hn,hn,hn⟩
 ·exact⟨(show i64B 1 by unfold i64B;omega),(show i64B 2 by unfold i64B;omega),(show u32B 0 by unfold u32B;omega),(show u32B (1+(k:Int)) by unfold u32B;omega),(show u32B 0 by unfold u32B;omega),(show i64B 0 by unfold i64B;omega),(show i64B 0 by unfold i64B;omega),hn,hn,hn⟩
theorem row_all {W:World} {base g:Nat} {t:TypeId} {sz n:Nat} {cs:Array Value} (hb:base≤g) (h:W.heap[g]?=some (.cells cs t (0,0))) (hn:n≤maxLen) (hs:cs.size=n * sz):W.ownsRow base t sz (.slice (some ⟨g,0,none⟩) n n) n cs.toList :=
 ⟨by simpa using hs,.inr ⟨g,n,cs,rfl,hb,h,Nat.le_refl _,hn,hs,List.take_of_length_le (by rw [← hs];simp)⟩⟩
theorem prV_u32 {f i:Nat} (hf:f=0∨(3≤f∧f < 3+i)) (hi:i≤4):u32B (prV f):=by
 unfold prV u32B
 rcases hf with rfl | h
 ·simp
 ·rw [if_neg (by omega),if_neg (by omega)];omega
theorem prE_mv (r:Int) (i:Nat):((prE r i).filter fun y=>decide (y.k < 4)).length=i+2:=by
 unfold prE
 rw [List.filter_append,List.length_append]
 have h:((List.range i).map otE).filter (fun y=>decide (y.k < 4))=(List.range i).map otE:=by
  rw [List.filter_eq_self]
  intro y hy
  obtain⟨k,_,rfl⟩:=List.mem_map.1 hy
  rfl
 rw [h,List.length_map,List.length_range]
 have:(([begE 0,lrE r,scE]).filter fun y=>decide (y.k < 4)).length=2:=rfl
 omega
def prX0 (s:Nat):X:=⟨some ⟨s,0,none⟩,3,prE 0 0,⟨some ⟨s+1,0,none⟩,3,prF 0 0⟩,none,0,[]⟩
theorem pr_start {w W:World} (hW:W=((((w.alloc (.cells ((prE 0 0).map cells).flatten.toArray 48)).alloc (.cells #[.int .i64 (-1),.int .i64 0,.int .i64 (-1)] 3)).alloc (.cells (xcells (prX0 w.heap.size)).toArray 26)).alloc (.cells #[.int .i64 0] 3))) :
 PrI w W (w.heap.size+1+1) (prX0 w.heap.size) (.slice (some ⟨w.heap.size+1+1+1,0,none⟩) 1 1) (prL 1 0):=by
 have hb:Below w.heap.size w W:=by
  rw [hW]
  exact(((((Below.refl _ _).alloc (Nat.le_refl _) _).alloc (by simp only [World.size_alloc];omega) _).alloc (by simp only [World.size_alloc];omega) _).alloc (by simp only [World.size_alloc];omega) _)
 have h0:W.heap[w.heap.size]?=some (.cells ((prE 0 0).map cells).flatten.toArray 48 (0,0)):=by
  rw [hW,Below.heap_alloc _ _ _ (by simp only [World.size_alloc];omega),Below.heap_alloc _ _ _ (by simp only [World.size_alloc];omega),Below.heap_alloc _ _ _ (by simp only [World.size_alloc];omega)]
  exact heap_alloc_new _ _
 have h1:W.heap[w.heap.size+1]?=some (.cells #[.int .i64 (-1),.int .i64 0,.int .i64 (-1)] 3 (0,0)):=by
  rw [hW,Below.heap_alloc _ _ _ (by simp only [World.size_alloc];omega),Below.heap_alloc _ _ _ (by simp only [World.size_alloc];omega)]
  have:=heap_alloc_new (w.alloc (.cells ((prE 0 0).map cells).flatten.toArray 48)) (.cells #[.int .i64 (-1),.int .i64 0,.int .i64 (-1)] 3)
  simpa only [World.size_alloc] using this
 have h2:W.heap[w.heap.size+1+1]?=some (.cells (xcells (prX0 w.heap.size)).toArray 26 (0,0)):=by
  rw [hW,Below.heap_alloc _ _ _ (by simp only [World.size_alloc];omega)]
  have:=heap_alloc_new ((w.alloc (.cells ((prE 0 0).map cells).flatten.toArray 48)).alloc (.cells #[.int .i64 (-1),.int .i64 0,.int .i64 (-1)] 3)) (.cells (xcells (prX0 w.heap.size)).toArray 26)
  simpa only [World.size_alloc] using this
 have h3:W.heap[w.heap.size+1+1+1]?=some (.cells #[.int .i64 0] 3 (0,0)):=by
  rw [hW]
  have:=heap_alloc_new (((w.alloc (.cells ((prE 0 0).map cells).flatten.toArray 48)).alloc (.cells #[.int .i64 (-1),.int .i64 0,.int .i64 (-1)] 3)).alloc (.cells (xcells (prX0 w.heap.size)).toArray 26)) (.cells #[.int .i64 0] 3)
  simpa only [World.size_alloc] using this
 refine⟨⟨hb,by omega,h2,row_all (by omega) h0 (show 3≤maxLen by decide) rfl,row_all (by omega) h1 (show 3≤maxLen by decide) rfl,World.ownsRow_nil _ _ _ _,fun b s hs=>by simp [prX0] at hs,fun b s hs=>by simp [prX0] at hs,fun b c s t hs=>by simp [prX0] at hs,fun y hy=>prE_ok (by unfold u32B;omega) 0 (by omega) y hy,fun n hn=>?_,fun s hs=>by simp [prX0] at hs⟩,row_all (by omega) h3 (show 1≤maxLen by decide) rfl,.inr ?_,rfl⟩
 ·have:n=-1∨n=0:=by
   have hn':n ∈ [-1,0,-1]:=hn
   simp at hn';omega
  rcases this with rfl | rfl <;> (unfold i64B;decide)
 ·show some (w.heap.size+1+1+1)≠some (w.heap.size+1)
  intro e;have:=Option.some.inj e;omega
end Md
end Go.Proofs.YtnjnpbabgefaeaaGreat
end
