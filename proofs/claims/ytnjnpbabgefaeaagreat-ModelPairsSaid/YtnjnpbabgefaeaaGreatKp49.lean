import Derived.Test.YtnjnpbabgefaeaaGreatKp48
import Derived.Test.YtnjnpbabgefaeaaGreatKp18
import Derived.Test.YtnjnpbabgefaeaaGreatKp07
import Derived.Test.YtnjnpbabgefaeaaGreatKpH
set_option maxRecDepth 100000
set_option maxHeartbeats 8000000
set_option linter.unusedVariables false
set_option linter.unusedSimpArgs false
section
namespace Go.Proofs.YtnjnpbabgefaeaaGreat
open Go.RowKit
namespace Md
open Ev
def kG (es:List R) (fr od:List Int) (s:Nat):X:=⟨some ⟨s,0,none⟩,es.length,es,⟨some ⟨s+1,0,none⟩,fr.length,fr⟩,some ⟨s+1+1+1,0,none⟩,1,[⟨some ⟨s+1+1,0,none⟩,od.length,od⟩]⟩
def kE0:R:=⟨-1,5,0,0,0,false,false,0,0,false,N0,N0,N0⟩
def kE1:R:=⟨0,2,0,1,0,false,false,0,0,false,N0,N0,N0⟩
def kEa:R:=⟨0,1,0,0,0,false,false,0,0,false,N0,N0,N0⟩
def kEb:R:=⟨0,1,0,0,1,false,false,0,0,false,N0,N0,N0⟩
theorem kG_in {W:World} {s:Nat} {es:List R} {fr od:List Int} (h0:W.heap[s]?=some (.cells (es.map cells).flatten.toArray 48 (0,0))) (h1:W.heap[s+1]?=some (.cells (fr.map (Value.int .i64)).toArray 3 (0,0)))
 (h2:W.heap[s+1+1]?=some (.cells (od.map (Value.int .i64)).toArray 3 (0,0))) (h3:W.heap[s+1+1+1]?=some (.cells #[.slice (some ⟨s+1+1,0,none⟩) od.length od.length] 23 (0,0)))
 (hes:∀ e ∈ es,ROk W e) (hfr:∀ v ∈ fr,i64B v) (hod:∀ v ∈ od,i64B v) (hl:es.length≤100∧fr.length≤100∧od.length≤100):XIn W (kG es fr od s):=by
 refine⟨⟨rows_of_block (xs:=es.map cells) h0 ?_,hes,Nat.le_refl _,by show es.length≤_;omega⟩,ints_of_block (l:=fr) h1 hfr (by omega),⟨rows_of_block (xs:=[[.slice (some ⟨s+1+1,0,none⟩) od.length od.length]]) h3 ?_,?_,by show 1≤1;omega,by show 1≤_;omega⟩⟩
 ·intro v hv
  obtain⟨e,_,rfl⟩:=List.mem_map.1 hv
  rfl
 ·intro v hv
  have:v=[.slice (some ⟨s+1+1,0,none⟩) od.length od.length]:=by simpa using hv
  subst this;rfl
 ·intro x hx
  have:x=⟨some ⟨s+1+1,0,none⟩,od.length,od⟩:=by simpa [kG] using hx
  subst this
  exact ints_of_block (l:=od) h2 hod (by omega)
def kA (s:Nat):X:=kG [kE0,kE1,kEa] [-1,-1,0] [0,1] s
def kB (s:Nat):X:=kG [kE0,kE1,kEb] [-1,-1,1] [0,1] s
theorem k_rok (W:World) (b:Bool):∀ e ∈ [kE0,kE1,if b then kEa else kEb],ROk W e:=by
 intro e he
 have he':e=kE0∨e=kE1∨e=kEa∨e=kEb:=by cases b <;> simp at he <;> rcases he with h | h | h <;> simp [h]
 rcases he' with rfl | rfl | rfl | rfl
 all_goals exact⟨by unfold i64B;decide,by unfold i64B;decide,by unfold u32B;decide,by unfold u32B;decide,by unfold u32B;decide,by unfold i64B;decide,by unfold i64B;decide,ints_none W,ints_none W,ints_none W⟩
theorem kA_check (s:Nat):check (kA s)=0:=by kernel_rfl
theorem kB_check (s:Nat):check (kB s)=0:=by kernel_rfl
theorem kA_coh (s:Nat):cohL (kA s)=[(0,2),(0,1),(2,1),(1,2)]:=by kernel_rfl
theorem kB_coh (s:Nat):cohL (kB s)=[(1,2),(0,1),(1,2)]:=by kernel_rfl
theorem kB_ord (s:Nat):pl (isG6 (kB s)) (kB s).ev.length (kB s).ev.length=[(0,1)]:=by kernel_rfl
theorem kB_atom (s:Nat):atomA (kB s)=true:=by kernel_rfl
theorem kA_no (s:Nat):¬ All3 (kA s):=by
 rintro⟨⟨rk,h⟩,_⟩
 rw [kA_coh] at h
 have h1:=h (2,1) (by simp [gI])
 have h2:=h (1,2) (by simp [gI])
 exact absurd (Int.lt_trans h1 h2) (Int.lt_irrefl _)
theorem kB_yes (s:Nat):All3 (kB s):=by
 refine⟨⟨id,?_⟩,⟨id,?_⟩,kB_atom s⟩
 ·rw [kB_coh];intro p hp;simp [gI] at hp;rcases hp with rfl | rfl | rfl <;> decide
 ·rw [kB_ord];intro p hp;simp [gI] at hp;rcases hp with rfl;decide
end Md
theorem allowed_is {x:Ev.X} {b:Bool} (hc:Ev.check x=0) (hb:b=true↔Md.All3 x) (w:World) (hin:Ev.XIn w x):Calls Tryz.prog 15 #[.agg (Ev.xcells x).toArray] w fun e w'=>e=.returned (.tuple #[.bool b,.int .i64 0])∧Below w.heap.size w w' :=
 (allowed_any x w hin).mono fun e w' ⟨hw,hr⟩=>by
   rcases hr with ⟨h,_⟩ | ⟨_,b',he,hb'⟩
   ·exact absurd hc h
   ·exact⟨by rw [he,Md.same_bool hb' hb],hw⟩
theorem known8_any (w:World):Calls Tryz.prog 14 #[] w fun e w'=>e=.returned (.bool true)∧Below w.heap.size w w':=by
 obtain⟨W5,hW5⟩:∃ W5,W5=(((((w.alloc (Obj.cells (([Md.kE0,Md.kE1,Md.kEa]).map Ev.cells).flatten.toArray 48)).alloc (Obj.cells #[.int .i64 (-1),.int .i64 (-1),.int .i64 0] 3)).alloc (Obj.cells #[.int .i64 0,.int .i64 1] 3)).alloc (Obj.cells #[.slice (some ⟨w.heap.size+1+1,0,none⟩) 2 2] 23)).alloc (Obj.cells (Ev.xcells (Md.kA w.heap.size)).toArray 26)):=⟨_,rfl⟩
 obtain⟨h0,h1,h2,h3,h4⟩:=heap_a5 w (Obj.cells (([Md.kE0,Md.kE1,Md.kEa]).map Ev.cells).flatten.toArray 48) (Obj.cells #[.int .i64 (-1),.int .i64 (-1),.int .i64 0] 3) (Obj.cells #[.int .i64 0,.int .i64 1] 3) (Obj.cells #[.slice (some ⟨w.heap.size+1+1,0,none⟩) 2 2] 23) (Obj.cells (Ev.xcells (Md.kA w.heap.size)).toArray 26)
 rw [← hW5] at h0 h1 h2 h3 h4
 have HINA:=qH (show Ev.XIn W5 (Md.kA w.heap.size) from Md.kG_in h0 h1 h2 h3 (Md.k_rok W5 true) (by intro v hv;simp at hv;unfold Ev.i64B;omega) (by intro v hv;simp at hv;unfold Ev.i64B;omega) (by simp))
 have RXA:=qH h4
 have BXA:=qH (show Below w.heap.size w W5 by
  rw [hW5]
  exact(((((Below.refl _ _).alloc (Nat.le_refl _) _).alloc (by simp only [World.size_alloc];omega) _).alloc (by simp only [World.size_alloc];omega) _).alloc (by simp only [World.size_alloc];omega) _).alloc (by simp only [World.size_alloc];omega) _)
 have HWA:=qH hW5
 have PPA:=qH (allowed_is (b:=false) (Md.kA_check w.heap.size) (by simp [Md.kA_no]) W5 HINA.out)
 clear hW5 h0 h1 h2 h3 h4
 go_enter Tryz.func14,Tryz.ntmps14
 go_wp2_with fail
 show Calls Tryz.prog 15 #[.agg (Ev.xcells (Md.kA w.heap.size)).toArray] (((((w.alloc (Obj.cells (([Md.kE0,Md.kE1,Md.kEa]).map Ev.cells).flatten.toArray 48)).alloc (Obj.cells #[.int .i64 (-1),.int .i64 (-1),.int .i64 0] 3)).alloc (Obj.cells #[.int .i64 0,.int .i64 1] 3)).alloc (Obj.cells #[.slice (some ⟨w.heap.size+1+1,0,none⟩) 2 2] 23)).alloc (Obj.cells (Ev.xcells (Md.kA w.heap.size)).toArray 26)) _
 rw [← HWA.out]
 refine PPA.out.mono ?_
 rintro e W6 ⟨rfl,hb⟩
 have B6:=qH (BXA.out.trans (hb.mono BXA.out.size))
 clear hb PPA
 obtain⟨W7,hW7⟩:∃ W7,W7=(((((W6.alloc (Obj.cells (([Md.kE0,Md.kE1,Md.kEb]).map Ev.cells).flatten.toArray 48)).alloc (Obj.cells #[.int .i64 (-1),.int .i64 (-1),.int .i64 1] 3)).alloc (Obj.cells #[.int .i64 0,.int .i64 1] 3)).alloc (Obj.cells #[.slice (some ⟨W6.heap.size+1+1,0,none⟩) 2 2] 23)).alloc (Obj.cells (Ev.xcells (Md.kB W6.heap.size)).toArray 26)):=⟨_,rfl⟩
 obtain⟨h0,h1,h2,h3,h4⟩:=heap_a5 W6 (Obj.cells (([Md.kE0,Md.kE1,Md.kEb]).map Ev.cells).flatten.toArray 48) (Obj.cells #[.int .i64 (-1),.int .i64 (-1),.int .i64 1] 3) (Obj.cells #[.int .i64 0,.int .i64 1] 3) (Obj.cells #[.slice (some ⟨W6.heap.size+1+1,0,none⟩) 2 2] 23) (Obj.cells (Ev.xcells (Md.kB W6.heap.size)).toArray 26)
 rw [← hW7] at h0 h1 h2 h3 h4
 have HINB:=qH (show Ev.XIn W7 (Md.kB W6.heap.size) from Md.kG_in h0 h1 h2 h3 (Md.k_rok W7 false) (by intro v hv;simp at hv;unfold Ev.i64B;omega) (by intro v hv;simp at hv;unfold Ev.i64B;omega) (by simp))
 have RXB:=qH h4
 have BXB:=qH (show Below W6.heap.size W6 W7 by
  rw [hW7]
  exact(((((Below.refl _ _).alloc (Nat.le_refl _) _).alloc (by simp only [World.size_alloc];omega) _).alloc (by simp only [World.size_alloc];omega) _).alloc (by simp only [World.size_alloc];omega) _).alloc (by simp only [World.size_alloc];omega) _)
 have HWB:=qH hW7
 have PPB:=qH (allowed_is (b:=true) (Md.kB_check W6.heap.size) (by simp [Md.kB_yes]) W7 HINB.out)
 clear hW7 h0 h1 h2 h3 h4
 go_wp2_with fail
 show Calls Tryz.prog 15 #[.agg (Ev.xcells (Md.kB W6.heap.size)).toArray] (((((W6.alloc (Obj.cells (([Md.kE0,Md.kE1,Md.kEb]).map Ev.cells).flatten.toArray 48)).alloc (Obj.cells #[.int .i64 (-1),.int .i64 (-1),.int .i64 1] 3)).alloc (Obj.cells #[.int .i64 0,.int .i64 1] 3)).alloc (Obj.cells #[.slice (some ⟨W6.heap.size+1+1,0,none⟩) 2 2] 23)).alloc (Obj.cells (Ev.xcells (Md.kB W6.heap.size)).toArray 26)) _
 rw [← HWB.out]
 refine PPB.out.mono ?_
 rintro e W8 ⟨rfl,hb⟩
 have B8:=qH (B6.out.trans ((BXB.out.trans (hb.mono BXB.out.size)).mono B6.out.size))
 clear hb PPB
 go_wp2_with fail
 go_ret
 exact⟨rfl,B8.out⟩
end Go.Proofs.YtnjnpbabgefaeaaGreat
end
section
namespace Go.Proofs.YtnjnpbabgefaeaaGreat
open Go.RowKit
theorem judge_any (x:Ev.X) (w:World) (hin:Ev.XIn w x):Calls Tryz.prog 17 #[.agg (Ev.xcells x).toArray] w (Md.JudgeR x w):=by
 have HIN:=qH hin;clear hin
 obtain⟨V,hV⟩:∃ V,V=(w.alloc (.cells (Ev.xcells x).toArray 26)).alloc (.cells #[.bool false,.bool false,.bool false] 34):=⟨_,rfl⟩
 have h0:=heap_alloc_new w (.cells (Ev.xcells x).toArray 26)
 have R0:=qH (show V.heap[w.heap.size]?=some (.cells (Ev.xcells x).toArray 26 (0,0)) by rw [hV];exact(((Below.refl _ _).alloc (Nat.le_refl _) _).block _ (by simp)).trans h0)
 have RV:=qH (show V.heap[w.heap.size+1]?=some (.cells #[.bool false,.bool false,.bool false] 34 (0,0)) by
  rw [hV];have h:=heap_alloc_new (w.alloc (.cells (Ev.xcells x).toArray 26)) (.cells #[.bool false,.bool false,.bool false] 34);rw [World.size_alloc] at h;exact h)
 have B0:=qH (show Below w.heap.size w V by rw [hV];exact((Below.refl _ _).alloc (Nat.le_refl _) _).alloc (by simp) _)
 have HV:=qH hV
 have HB:=qH (bring_any x V (HIN.out.kp (Ev.kp_below B0.out)))
 clear hV h0
 go_enter Tryz.func17,Tryz.ntmps17
 go_wp2_with (first
  | ((with_reducible refine qG 8 ?_);rw [← HV.out])
  | ((with_reducible refine qG 8 ?_);refine wpList_load_row rfl 26 (.tmp 1) rfl w.heap.size (by kernel_rfl) 26 (Ev.xcells x).toArray (0,0) _ R0.out Tryz.underlying26 rfl (by kernel_rfl) ?_))
 refine HB.out.mono ?_
 rintro e W1 ⟨hb,hr⟩
 have B1:=qH (B0.out.trans (hb.mono B0.out.size))
 have R1:=qH ((hb.block _ (qL RV.out)).trans RV.out)
 clear hb HB
 rcases hr with ⟨hc,rfl⟩ | ⟨hc,q,rfl,hj⟩
 ·obtain⟨v,hv⟩:∃ v,Ev.check x=v:=⟨_,rfl⟩
  have HVV:=qH hv;have HC:=qH hc
  rw [hv] at hc ⊢
  have tv:(v != 0)=true:=by simpa using hc
  clear hv hc
  go_wp2_with ((with_reducible show wpList _ _ _ (Oper.mk none (Op.store 34 _ _) _ _ _ _ :: _) _ _);refine wpList_store_own rfl 34 (.tmp 2) (.tmp 14) rfl (w.heap.size+1) #[.bool false,.bool false,.bool false] rfl rfl 34 #[.bool false,.bool false,.bool false] R1.out (by kernel_rfl) (by kernel_rfl) (by kernel_rfl) ?_;intro W9 HW9;have BZ:=qH (B1.out.trans (HW9.below.mono (Nat.le_succ _)));have RZ:=qH HW9.row;clear HW9)
  exact bodyPost_ret (results_cells2 rfl _ _ (w.heap.size+1) 34 _ (0,0) _ rfl RZ.out Tryz.underlying34 rfl (by kernel_rfl)) rfl (Md.JudgeR.no BZ.out HC.out (by rw [HVV.out];rfl))
 ·have HC:=qH hc;have HJ:=qH hj
  clear hc hj
  obtain⟨b1,h1⟩:=Md.tells (Md.Rk (Md.gI (Md.cohL x)))
  obtain⟨b2,h2⟩:=Md.tells (Md.Rk (Md.gI (Ev.pl (Ev.isG6 x) x.ev.length x.ev.length)))
  obtain⟨b3,h3⟩:∃ b3,b3=Md.atomA x:=⟨_,rfl⟩
  have H1:=qH h1;have H2:=qH h2;have H3:=qH h3
  have K1:=qH (fun (W:World) (hj:Md.JIn W q x)=>isCoherent_is x q HC.out b1 h1 W hj)
  have K2:=qH (fun (W:World) (hj:Md.JIn W q x)=>isOrdered_is x q HC.out b2 h2 W hj)
  have K3:=qH (fun (W:World) (hj:Md.JIn W q x)=>isAtomic_is x q HC.out b3 h3 W hj)
  clear h1 h2 h3
  go_wp2_with fail
  refine(jparts_any q W1).mono ?_
  rintro e W2 ⟨rfl,hb⟩
  obtain⟨pb,hpb⟩:∃ pb,pb=W2.heap.size:=⟨_,rfl⟩
  obtain⟨U,hU⟩:∃ U,U=W2.alloc (.cells #[.func (.func 48) #[.pointer (some ⟨q,0,none⟩)] #[],.func (.func 49) #[.pointer (some ⟨q,0,none⟩)] #[],.func (.func 50) #[.pointer (some ⟨q,0,none⟩)] #[]] 68):=⟨_,rfl⟩
  have hbu:Below W2.heap.size W2 U:=by rw [hU];exact(Below.refl _ _).alloc (Nat.le_refl _) _
  have BU:=qH (hb.trans (hbu.mono hb.size))
  have ru:U.heap[pb]?=some (.cells #[.func (.func 48) #[.pointer (some ⟨q,0,none⟩)] #[],.func (.func 49) #[.pointer (some ⟨q,0,none⟩)] #[],.func (.func 50) #[.pointer (some ⟨q,0,none⟩)] #[]] 68 (0,0)):=by rw [hU,hpb];exact heap_alloc_new _ _
  have RU:=qH ru;have HU:=qH hU;have HPB:=qH hpb
  have RW:=qH ((BU.out.block _ (qL R1.out)).trans R1.out)
  clear hb hbu hU ru hpb
  have c0:U.cell? ⟨pb,0,none⟩=some (.func (.func 48) #[.pointer (some ⟨q,0,none⟩)] #[]):=by rw [qC RU.out];rfl
  have c1:U.cell? ⟨pb,1,none⟩=some (.func (.func 49) #[.pointer (some ⟨q,0,none⟩)] #[]):=by rw [qC RU.out];rfl
  have c2:U.cell? ⟨pb,2,none⟩=some (.func (.func 50) #[.pointer (some ⟨q,0,none⟩)] #[]):=by rw [qC RU.out];rfl
  go_wp2_with fail
  rw [← HU.out,← HPB.out]
  refine Og.regionP (by kernel_rfl) 10 (fun t=>([(18,0),(19,1),(20,2),(21,3),(22,4),(23,5),(24,6),(25,7),(26,8),(27,9)]:List (Nat × Nat)).lookup t) [.is (.pointer (some ⟨pb,0,none⟩)),.is (.func (.func 48) #[.pointer (some ⟨q,0,none⟩)] #[]),.is (.bool b1),.is (.pointer (some ⟨pb,1,none⟩)),.is (.func (.func 49) #[.pointer (some ⟨q,0,none⟩)] #[]),.is (.bool b2),.is (.pointer (some ⟨pb,2,none⟩)),.is (.func (.func 50) #[.pointer (some ⟨q,0,none⟩)] #[]),.is (.bool b3),.is (.agg #[.bool b1,.bool b2,.bool b3])] [true,true,true,true,true,true,true,true,true,true] (by kernel_rfl) (by decide) ?_ ?_
  ·refine⟨?_,?_,?_,?_,?_,?_,?_,?_,?_,?_,trivial⟩
   ·refine⟨rfl,(if_neg (by decide)).mpr fun ρ xw b hr hd=>?_⟩
    obtain⟨d0,_⟩:=hd
    have d0:ρ (.tmp 6)=.pointer (some ⟨pb,0,none⟩):=d0
    refine(if_pos (by rfl)).mpr ?_
    refine Og.gives_is (.pointer (some ⟨pb,0,none⟩)) ?_ (And.intro (Below.refl _ _) rfl)
    go_simp
   ·refine⟨rfl,(if_neg (by decide)).mpr fun ρ xw b hr hd=>?_⟩
    obtain⟨d0,_⟩:=hd
    have d0:ρ (.tmp 18)=.pointer (some ⟨pb,0,none⟩):=d0
    refine(if_pos (by rfl)).mpr ?_
    have hc:xw.cell? ⟨pb,0,none⟩=some (.func (.func 48) #[.pointer (some ⟨q,0,none⟩)] #[]):=(Below.cell hr (World.block_lt_of_cell? _ _ c0)).trans c0
    refine Og.gives_is (.func (.func 48) #[.pointer (some ⟨q,0,none⟩)] #[]) ?_ (And.intro (Below.refl _ _) rfl)
    go_simp
   ·refine⟨rfl,(if_neg (by decide)).mpr fun ρ xw b hr hd=>?_⟩
    obtain⟨d0,_⟩:=hd
    have d0:ρ (.tmp 19)=.func (.func 48) #[.pointer (some ⟨q,0,none⟩)] #[]:=d0
    refine(if_pos (by rfl)).mpr ?_
    refine Og.gives_call 48 #[.pointer (some ⟨q,0,none⟩)] ?_ ?_
    ·go_simp
    ·refine(K1.out xw (HJ.out.kp (BU.out.trans (hr.mono BU.out.size)))).mono ?_
     rintro e w3 ⟨rfl,hb⟩
     exact⟨_,rfl,hb,rfl⟩
   ·refine⟨rfl,(if_neg (by decide)).mpr fun ρ xw b hr hd=>?_⟩
    obtain⟨d0,_⟩:=hd
    have d0:ρ (.tmp 6)=.pointer (some ⟨pb,0,none⟩):=d0
    refine(if_pos (by rfl)).mpr ?_
    refine Og.gives_is (.pointer (some ⟨pb,1,none⟩)) ?_ (And.intro (Below.refl _ _) rfl)
    go_simp
   ·refine⟨rfl,(if_neg (by decide)).mpr fun ρ xw b hr hd=>?_⟩
    obtain⟨d0,_⟩:=hd
    have d0:ρ (.tmp 21)=.pointer (some ⟨pb,1,none⟩):=d0
    refine(if_pos (by rfl)).mpr ?_
    have hc:xw.cell? ⟨pb,1,none⟩=some (.func (.func 49) #[.pointer (some ⟨q,0,none⟩)] #[]):=(Below.cell hr (World.block_lt_of_cell? _ _ c1)).trans c1
    refine Og.gives_is (.func (.func 49) #[.pointer (some ⟨q,0,none⟩)] #[]) ?_ (And.intro (Below.refl _ _) rfl)
    go_simp
   ·refine⟨rfl,(if_neg (by decide)).mpr fun ρ xw b hr hd=>?_⟩
    obtain⟨d0,_⟩:=hd
    have d0:ρ (.tmp 22)=.func (.func 49) #[.pointer (some ⟨q,0,none⟩)] #[]:=d0
    refine(if_pos (by rfl)).mpr ?_
    refine Og.gives_call 49 #[.pointer (some ⟨q,0,none⟩)] ?_ ?_
    ·go_simp
    ·refine(K2.out xw (HJ.out.kp (BU.out.trans (hr.mono BU.out.size)))).mono ?_
     rintro e w3 ⟨rfl,hb⟩
     exact⟨_,rfl,hb,rfl⟩
   ·refine⟨rfl,(if_neg (by decide)).mpr fun ρ xw b hr hd=>?_⟩
    obtain⟨d0,_⟩:=hd
    have d0:ρ (.tmp 6)=.pointer (some ⟨pb,0,none⟩):=d0
    refine(if_pos (by rfl)).mpr ?_
    refine Og.gives_is (.pointer (some ⟨pb,2,none⟩)) ?_ (And.intro (Below.refl _ _) rfl)
    go_simp
   ·refine⟨rfl,(if_neg (by decide)).mpr fun ρ xw b hr hd=>?_⟩
    obtain⟨d0,_⟩:=hd
    have d0:ρ (.tmp 24)=.pointer (some ⟨pb,2,none⟩):=d0
    refine(if_pos (by rfl)).mpr ?_
    have hc:xw.cell? ⟨pb,2,none⟩=some (.func (.func 50) #[.pointer (some ⟨q,0,none⟩)] #[]):=(Below.cell hr (World.block_lt_of_cell? _ _ c2)).trans c2
    refine Og.gives_is (.func (.func 50) #[.pointer (some ⟨q,0,none⟩)] #[]) ?_ (And.intro (Below.refl _ _) rfl)
    go_simp
   ·refine⟨rfl,(if_neg (by decide)).mpr fun ρ xw b hr hd=>?_⟩
    obtain⟨d0,_⟩:=hd
    have d0:ρ (.tmp 25)=.func (.func 50) #[.pointer (some ⟨q,0,none⟩)] #[]:=d0
    refine(if_pos (by rfl)).mpr ?_
    refine Og.gives_call 50 #[.pointer (some ⟨q,0,none⟩)] ?_ ?_
    ·go_simp
    ·refine(K3.out xw (HJ.out.kp (BU.out.trans (hr.mono BU.out.size)))).mono ?_
     rintro e w3 ⟨rfl,hb⟩
     exact⟨_,rfl,hb,rfl⟩
   ·refine⟨rfl,(if_neg (by decide)).mpr fun ρ xw b hr hd=>?_⟩
    obtain⟨d0,d1,d2,_⟩:=hd
    have d0:ρ (.tmp 20)=.bool b1:=d0
    have d1:ρ (.tmp 23)=.bool b2:=d1
    have d2:ρ (.tmp 26)=.bool b3:=d2
    refine(if_pos (by rfl)).mpr ?_
    refine Og.gives_build 34 #[(0,.tmp 20),(1,.tmp 23),(2,.tmp 26)] rfl #[.bool b1,.bool b2,.bool b3] ?_ (And.intro (Below.refl _ _) rfl)
    simp only [List.map_toArray,List.map_cons,List.map_nil,d0,d1,d2]
    kernel_rfl
  ·intro vs w1 hbz hvs
   have nv0:vs 0=.pointer (some ⟨pb,0,none⟩):=hvs 0 _ 18 rfl rfl
   have nv1:vs 1=.func (.func 48) #[.pointer (some ⟨q,0,none⟩)] #[]:=hvs 1 _ 19 rfl rfl
   have nv2:vs 2=.bool b1:=hvs 2 _ 20 rfl rfl
   have nv3:vs 3=.pointer (some ⟨pb,1,none⟩):=hvs 3 _ 21 rfl rfl
   have nv4:vs 4=.func (.func 49) #[.pointer (some ⟨q,0,none⟩)] #[]:=hvs 4 _ 22 rfl rfl
   have nv5:vs 5=.bool b2:=hvs 5 _ 23 rfl rfl
   have nv6:vs 6=.pointer (some ⟨pb,2,none⟩):=hvs 6 _ 24 rfl rfl
   have nv7:vs 7=.func (.func 50) #[.pointer (some ⟨q,0,none⟩)] #[]:=hvs 7 _ 25 rfl rfl
   have nv8:vs 8=.bool b3:=hvs 8 _ 26 rfl rfl
   have nv9:vs 9=.agg #[.bool b1,.bool b2,.bool b3]:=hvs 9 _ 27 rfl rfl
   simp only [List.take_succ_cons,List.take_zero,List.drop_succ_cons,List.drop_zero,Og.putAll,Act.put,List.setIfInBounds_toArray,List.set_cons_zero,List.set_cons_succ,Nat.zero_add,Nat.reduceAdd,nv0,nv1,nv2,nv3,nv4,nv5,nv6,nv7,nv8,nv9]
   have BX:=qH (B1.out.trans ((BU.out.trans (hbz.mono BU.out.size)).mono B1.out.size))
   have RX:=qH ((hbz.block _ (qL RW.out)).trans RW.out)
   clear hvs nv0 nv1 nv2 nv3 nv4 nv5 nv6 nv7 nv8 nv9 c0 c1 c2
   go_wp2_with ((with_reducible show wpList _ _ _ (Oper.mk none (Op.store 34 _ _) _ _ _ _ :: _) _ _);refine wpList_store_own rfl 34 (.tmp 2) (.tmp 27) rfl (w.heap.size+1) #[.bool b1,.bool b2,.bool b3] rfl rfl 34 #[.bool false,.bool false,.bool false] RX.out (by kernel_rfl) (by kernel_rfl) (by kernel_rfl) ?_;intro W9 HW9;have BZ:=qH (BX.out.trans (HW9.below.mono (Nat.le_succ _)));have RZ:=qH HW9.row;clear HW9)
   exact bodyPost_ret (results_cells2 rfl _ _ (w.heap.size+1) 34 _ (0,0) _ rfl RZ.out Tryz.underlying34 rfl (by kernel_rfl)) rfl (Md.JudgeR.yes BZ.out HC.out b1 b2 b3 rfl H1.out H2.out H3.out)
end Go.Proofs.YtnjnpbabgefaeaaGreat
end
