import Derived.Test.YtecnnkidalkmfaaGreatKa27
import Derived.Test.YtecnnkidalkmfaaGreatKa26
import Derived.Test.YtecnnkidalkmfaaGreatKa24
import Derived.Test.YtecnnkidalkmfaaGreatKa12

section
namespace Go.Proofs.YtecnnkidalkmfaaGreat
open Go.RowKit
set_option linter.unusedVariables false
set_option linter.unusedSimpArgs false
set_option maxRecDepth 100000 in
set_option maxHeartbeats 4000000 in
theorem rco_any (x : Ev.X) (a b : Nat) (ha : a < x.ev.length) (hb : b < x.ev.length) (w : World) (hin : Ev.XIn w x) :
    Calls Tryz.prog 39 #[Ev.exV x, .int .i64 (a : Int), .int .i64 (b : Int)] w fun e w' => e = .returned (.bool (Ev.isCo x a b)) ∧ Below w.heap.size w w' := by
  have HIN := Lib.hid hin
  have hl1 := hin.ev.le; have hl2 := hin.ev.max
  obtain ⟨B, hB⟩ : ∃ B, B = w.alloc (Obj.cells (Ev.xcells x).toArray 26) := ⟨_, rfl⟩
  have HB := Lib.hid hB
  have B0 := Lib.hid (show Below w.heap.size w B by rw [hB]; exact (Below.refl w.heap.size w).alloc (Nat.le_refl _) _)
  have HX := Lib.hid (show Ev.XIn B x from hin.kp (Ev.kp_below B0.out))
  have RX := Lib.hid (show B.heap[w.heap.size]? = some (.cells (Ev.xcells x).toArray 26 (0, 0)) by rw [hB]; exact heap_alloc_new _ _)
  clear hin hB
  obtain ⟨ea, hea⟩ : ∃ e, x.ev[a]? = some e := ⟨_, List.getElem?_eq_getElem ha⟩
  obtain ⟨ga, oa, ega, hca⟩ := HX.out.ev.at_ hea
  have hna := Ev.nth_some hea
  have hai : (a : Int) < (x.ev.length : Int) := by omega
  obtain ⟨eb, heb⟩ : ∃ e, x.ev[b]? = some e := ⟨_, List.getElem?_eq_getElem hb⟩
  obtain ⟨gb, ob, egb, hcb⟩ := HX.out.ev.at_ heb
  have hnb := Ev.nth_some heb
  have hbi : (b : Int) < (x.ev.length : Int) := by omega
  obtain ⟨rfl, rfl⟩ : gb = ga ∧ ob = oa := by rw [ega] at egb; cases egb; exact ⟨rfl, rfl⟩
  have LX := Lib.hid (fun z : Og.On B.heap.size B => Og.rowB (P := Tryz.prog) z 26 _ RX.out Tryz.underlying26 rfl (by kernel_rfl))
  obtain ⟨sa, hsa⟩ : ∃ s, Ev.stores ea.k = s := ⟨_, rfl⟩
  obtain ⟨sb, hsb⟩ : ∃ s, Ev.stores eb.k = s := ⟨_, rfl⟩
  obtain ⟨pa, hpa⟩ : ∃ s, Ev.place x (a : Int) = s := ⟨_, rfl⟩
  obtain ⟨pb, hpb⟩ : ∃ s, Ev.place x (b : Int) = s := ⟨_, rfl⟩
  have HSA := Lib.hid hsa; have HSB := Lib.hid hsb; have HPA := Lib.hid hpa; have HPB := Lib.hid hpb
  have HRES := Lib.hid (show Ev.isCo x a b = (sa && sb && ea.a == eb.a && decide (pa < pb)) by unfold Ev.isCo; rw [hna, hnb, hsa, hsb, hpa, hpb])
  have hza : ∀ z : Og.On B.heap.size B, ∀ i c, (Ev.cells ea)[i]? = some c → z.x.cell? ⟨gb, ob + a * 13 + i, none⟩ = some c := fun z i c hi => Og.cellB z (hca i c hi)
  have La := Lib.hid (fun z : Og.On B.heap.size B => Ev.ld (hza z))
  have ca2 : ∀ z : Og.On B.heap.size B, z.x.cell? ⟨gb, ob + a * 13 + 2, none⟩ = some (.int .u32 ea.a) := fun z => hza z 2 _ rfl
  have hzb : ∀ z : Og.On B.heap.size B, ∀ i c, (Ev.cells eb)[i]? = some c → z.x.cell? ⟨gb, ob + b * 13 + i, none⟩ = some c := fun z i c hi => Og.cellB z (hcb i c hi)
  have Lb := Lib.hid (fun z : Og.On B.heap.size B => Ev.ld (hzb z))
  have cb2 : ∀ z : Og.On B.heap.size B, z.x.cell? ⟨gb, ob + b * 13 + 2, none⟩ = some (.int .u32 eb.a) := fun z => hzb z 2 _ rfl
  have cx : ∀ z : Og.On B.heap.size B, z.x.cell? ⟨w.heap.size, 0, none⟩ = some (.slice (some ⟨gb, ob, none⟩) x.ev.length x.ce) := fun z => Og.cellB z (by rw [← egb]; exact Ev.xcell0 RX.out)
  clear hea heb ega hca hcb hna hnb hza hzb egb hsa hsb hpa hpb
  unfold Ev.exV Ev.xcells
  go_enter Tryz.func39, Tryz.ntmps39
  cases sa
  · have HF := Lib.hid (show Ev.isCo x a b = false by rw [HRES.out]; rfl)
    go_wp2
    rw [show w.alloc (Obj.cells #[Value.slice x.ae x.ev.length x.ce, Value.slice x.fr.a x.fr.l.length x.fr.c, Value.slice x.ao x.od.length x.co] 26) = B from HB.out.symm]
    refine Og.regionB (by kernel_rfl) (by kernel_rfl) ?_
    repeat (first
      | go_big_quiet_skip
      | (go_big_quiet_want
         first
          | ((with_reducible show Oper.quiet _ (Oper.mk (some 11) _ _ _ _ _) _ _ _); refine Og.quiet_load 48 (.tmp 10) rfl (.agg (Ev.cells ea).toArray) ⟨gb, ob + a * 13, none⟩ _ rfl (by rintro _ ⟨z, rfl⟩; exact La.out z) (by simp only [Act.put, List.setIfInBounds_toArray, List.set_cons_zero, List.set_cons_succ]; rfl) ?_
             go_big_quiet_on)
          | (go_big_quiet_op
             first
              | go_big_quiet_on
              | (apply Exists.intro
                 refine ⟨fun z => ?_, ?_⟩
                 · first
                    | (with_reducible exact Og.callB (rstores_is HSA.out _))
                 go_big_quiet_on))))
    refine wpQuiet_nil ?_
    intro _ hw'
    obtain ⟨q9, hw''⟩ := hw'
    subst hw''
    have HEND := Lib.hid (B0.out.trans (q9.b.mono B0.out.size))
    go_wp2_with fail
    go_ret
    exact ⟨by rw [HF.out]; rfl, HEND.out⟩
  cases sb
  · have HF := Lib.hid (show Ev.isCo x a b = false by rw [HRES.out]; rfl)
    go_wp2
    rw [show w.alloc (Obj.cells #[Value.slice x.ae x.ev.length x.ce, Value.slice x.fr.a x.fr.l.length x.fr.c, Value.slice x.ao x.od.length x.co] 26) = B from HB.out.symm]
    refine Og.regionB (by kernel_rfl) (by kernel_rfl) ?_
    repeat (first
      | go_big_quiet_skip
      | (go_big_quiet_want
         first
          | ((with_reducible show Oper.quiet _ (Oper.mk (some 11) _ _ _ _ _) _ _ _); refine Og.quiet_load 48 (.tmp 10) rfl (.agg (Ev.cells ea).toArray) ⟨gb, ob + a * 13, none⟩ _ rfl (by rintro _ ⟨z, rfl⟩; exact La.out z) (by simp only [Act.put, List.setIfInBounds_toArray, List.set_cons_zero, List.set_cons_succ]; rfl) ?_
             go_big_quiet_on)
          | ((with_reducible show Oper.quiet _ (Oper.mk (some 18) _ _ _ _ _) _ _ _); refine Og.quiet_load 48 (.tmp 17) rfl (.agg (Ev.cells eb).toArray) ⟨gb, ob + b * 13, none⟩ _ rfl (by rintro _ ⟨z, rfl⟩; exact Lb.out z) (by simp only [Act.put, List.setIfInBounds_toArray, List.set_cons_zero, List.set_cons_succ]; rfl) ?_
             go_big_quiet_on)
          | (go_big_quiet_op
             first
              | go_big_quiet_on
              | (apply Exists.intro
                 refine ⟨fun z => ?_, ?_⟩
                 · first
                    | (with_reducible exact Og.callB (rstores_is HSA.out _))
                    | (with_reducible exact Og.callB (rstores_is HSB.out _))
                 go_big_quiet_on))))
    refine wpQuiet_nil ?_
    intro _ hw'
    obtain ⟨q9, hw''⟩ := hw'
    subst hw''
    have HEND := Lib.hid (B0.out.trans (q9.b.mono B0.out.size))
    go_wp2_with fail
    go_ret
    exact ⟨by rw [HF.out]; rfl, HEND.out⟩
  by_cases h3 : ea.a = eb.a
  case neg =>
    have t3 : (ea.a == eb.a) = false := by simpa using h3
    have HF := Lib.hid (show Ev.isCo x a b = false by rw [HRES.out, t3]; rfl)
    clear h3
    go_wp2
    rw [show w.alloc (Obj.cells #[Value.slice x.ae x.ev.length x.ce, Value.slice x.fr.a x.fr.l.length x.fr.c, Value.slice x.ao x.od.length x.co] 26) = B from HB.out.symm]
    refine Og.regionB (by kernel_rfl) (by kernel_rfl) ?_
    repeat (first
      | go_big_quiet_skip
      | (go_big_quiet_want
         first
          | ((with_reducible show Oper.quiet _ (Oper.mk (some 11) _ _ _ _ _) _ _ _); refine Og.quiet_load 48 (.tmp 10) rfl (.agg (Ev.cells ea).toArray) ⟨gb, ob + a * 13, none⟩ _ rfl (by rintro _ ⟨z, rfl⟩; exact La.out z) (by simp only [Act.put, List.setIfInBounds_toArray, List.set_cons_zero, List.set_cons_succ]; rfl) ?_
             go_big_quiet_on)
          | ((with_reducible show Oper.quiet _ (Oper.mk (some 18) _ _ _ _ _) _ _ _); refine Og.quiet_load 48 (.tmp 17) rfl (.agg (Ev.cells eb).toArray) ⟨gb, ob + b * 13, none⟩ _ rfl (by rintro _ ⟨z, rfl⟩; exact Lb.out z) (by simp only [Act.put, List.setIfInBounds_toArray, List.set_cons_zero, List.set_cons_succ]; rfl) ?_
             go_big_quiet_on)
          | (go_big_quiet_op
             first
              | go_big_quiet_on
              | (apply Exists.intro
                 refine ⟨fun z => ?_, ?_⟩
                 · first
                    | (with_reducible exact Og.callB (rstores_is HSA.out _))
                    | (with_reducible exact Og.callB (rstores_is HSB.out _))
                 go_big_quiet_on))))
    refine wpQuiet_nil ?_
    intro _ hw'
    obtain ⟨q9, hw''⟩ := hw'
    subst hw''
    have HEND := Lib.hid (B0.out.trans (q9.b.mono B0.out.size))
    go_wp2_with fail
    go_ret
    exact ⟨by rw [HF.out]; rfl, HEND.out⟩
  have t3 : (ea.a == eb.a) = true := by simpa using h3
  by_cases h4 : pa < pb
  · have t4 : decide (pa < pb) = true := decide_eq_true h4
    have HF := Lib.hid (show Ev.isCo x a b = true by rw [HRES.out, t3, t4]; rfl)
    clear h3
    go_wp2
    rw [show w.alloc (Obj.cells #[Value.slice x.ae x.ev.length x.ce, Value.slice x.fr.a x.fr.l.length x.fr.c, Value.slice x.ao x.od.length x.co] 26) = B from HB.out.symm]
    refine Og.regionB (by kernel_rfl) (by kernel_rfl) ?_
    repeat (first
      | go_big_quiet_skip
      | (go_big_quiet_want
         first
          | ((with_reducible show Oper.quiet _ (Oper.mk (some 11) _ _ _ _ _) _ _ _); refine Og.quiet_load 48 (.tmp 10) rfl (.agg (Ev.cells ea).toArray) ⟨gb, ob + a * 13, none⟩ _ rfl (by rintro _ ⟨z, rfl⟩; exact La.out z) (by simp only [Act.put, List.setIfInBounds_toArray, List.set_cons_zero, List.set_cons_succ]; rfl) ?_
             go_big_quiet_on)
          | ((with_reducible show Oper.quiet _ (Oper.mk (some 18) _ _ _ _ _) _ _ _); refine Og.quiet_load 48 (.tmp 17) rfl (.agg (Ev.cells eb).toArray) ⟨gb, ob + b * 13, none⟩ _ rfl (by rintro _ ⟨z, rfl⟩; exact Lb.out z) (by simp only [Act.put, List.setIfInBounds_toArray, List.set_cons_zero, List.set_cons_succ]; rfl) ?_
             go_big_quiet_on)
          | ((with_reducible show Oper.quiet _ (Oper.mk (some 37) _ _ _ _ _) _ _ _); refine Og.quiet_load 26 (.tmp 3) rfl (.agg (Ev.xcells x).toArray) ⟨w.heap.size, 0, none⟩ _ rfl (by rintro _ ⟨z, rfl⟩; exact LX.out z) (by simp only [Act.put, List.setIfInBounds_toArray, List.set_cons_zero, List.set_cons_succ]; rfl) ?_
             go_big_quiet_on)
          | ((with_reducible show Oper.quiet _ (Oper.mk (some 40) _ _ _ _ _) _ _ _); refine Og.quiet_load 26 (.tmp 3) rfl (.agg (Ev.xcells x).toArray) ⟨w.heap.size, 0, none⟩ _ rfl (by rintro _ ⟨z, rfl⟩; exact LX.out z) (by simp only [Act.put, List.setIfInBounds_toArray, List.set_cons_zero, List.set_cons_succ]; rfl) ?_
             go_big_quiet_on)
          | (go_big_quiet_op
             first
              | go_big_quiet_on
              | (apply Exists.intro
                 refine ⟨fun z => ?_, ?_⟩
                 · first
                    | (with_reducible exact Og.callB (rstores_is HSA.out _))
                    | (with_reducible exact Og.callB (rstores_is HSB.out _))
                    | (with_reducible exact Og.callB (rplace_is HPA.out _ (HX.out.kp (Ev.kp_below z.b))))
                    | (with_reducible exact Og.callB (rplace_is HPB.out _ (HX.out.kp (Ev.kp_below z.b))))
                 go_big_quiet_on))))
    refine wpQuiet_nil ?_
    intro _ hw'
    obtain ⟨q9, hw''⟩ := hw'
    subst hw''
    have HEND := Lib.hid (B0.out.trans (q9.b.mono B0.out.size))
    go_wp2_with fail
    go_ret
    exact ⟨by rw [HF.out]; rfl, HEND.out⟩
  · have t4 : decide (pa < pb) = false := decide_eq_false h4
    have HF := Lib.hid (show Ev.isCo x a b = false by rw [HRES.out, t3, t4]; rfl)
    clear h3
    go_wp2
    rw [show w.alloc (Obj.cells #[Value.slice x.ae x.ev.length x.ce, Value.slice x.fr.a x.fr.l.length x.fr.c, Value.slice x.ao x.od.length x.co] 26) = B from HB.out.symm]
    refine Og.regionB (by kernel_rfl) (by kernel_rfl) ?_
    repeat (first
      | go_big_quiet_skip
      | (go_big_quiet_want
         first
          | ((with_reducible show Oper.quiet _ (Oper.mk (some 11) _ _ _ _ _) _ _ _); refine Og.quiet_load 48 (.tmp 10) rfl (.agg (Ev.cells ea).toArray) ⟨gb, ob + a * 13, none⟩ _ rfl (by rintro _ ⟨z, rfl⟩; exact La.out z) (by simp only [Act.put, List.setIfInBounds_toArray, List.set_cons_zero, List.set_cons_succ]; rfl) ?_
             go_big_quiet_on)
          | ((with_reducible show Oper.quiet _ (Oper.mk (some 18) _ _ _ _ _) _ _ _); refine Og.quiet_load 48 (.tmp 17) rfl (.agg (Ev.cells eb).toArray) ⟨gb, ob + b * 13, none⟩ _ rfl (by rintro _ ⟨z, rfl⟩; exact Lb.out z) (by simp only [Act.put, List.setIfInBounds_toArray, List.set_cons_zero, List.set_cons_succ]; rfl) ?_
             go_big_quiet_on)
          | ((with_reducible show Oper.quiet _ (Oper.mk (some 37) _ _ _ _ _) _ _ _); refine Og.quiet_load 26 (.tmp 3) rfl (.agg (Ev.xcells x).toArray) ⟨w.heap.size, 0, none⟩ _ rfl (by rintro _ ⟨z, rfl⟩; exact LX.out z) (by simp only [Act.put, List.setIfInBounds_toArray, List.set_cons_zero, List.set_cons_succ]; rfl) ?_
             go_big_quiet_on)
          | ((with_reducible show Oper.quiet _ (Oper.mk (some 40) _ _ _ _ _) _ _ _); refine Og.quiet_load 26 (.tmp 3) rfl (.agg (Ev.xcells x).toArray) ⟨w.heap.size, 0, none⟩ _ rfl (by rintro _ ⟨z, rfl⟩; exact LX.out z) (by simp only [Act.put, List.setIfInBounds_toArray, List.set_cons_zero, List.set_cons_succ]; rfl) ?_
             go_big_quiet_on)
          | (go_big_quiet_op
             first
              | go_big_quiet_on
              | (apply Exists.intro
                 refine ⟨fun z => ?_, ?_⟩
                 · first
                    | (with_reducible exact Og.callB (rstores_is HSA.out _))
                    | (with_reducible exact Og.callB (rstores_is HSB.out _))
                    | (with_reducible exact Og.callB (rplace_is HPA.out _ (HX.out.kp (Ev.kp_below z.b))))
                    | (with_reducible exact Og.callB (rplace_is HPB.out _ (HX.out.kp (Ev.kp_below z.b))))
                 go_big_quiet_on))))
    refine wpQuiet_nil ?_
    intro _ hw'
    obtain ⟨q9, hw''⟩ := hw'
    subst hw''
    have HEND := Lib.hid (B0.out.trans (q9.b.mono B0.out.size))
    go_wp2_with fail
    go_ret
    exact ⟨by rw [HF.out]; rfl, HEND.out⟩
theorem rco_is {x : Ev.X} {a b : Nat} {v : Bool} (h : Ev.isCo x a b = v) (ha : a < x.ev.length) (hb : b < x.ev.length) (w : World) (hin : Ev.XIn w x) :
    Calls Tryz.prog 39 #[.agg (Ev.xcells x).toArray, .int .i64 (a : Int), .int .i64 (b : Int)] w fun e w' => e = .returned (.bool v) ∧ Below w.heap.size w w' := h ▸ rco_any x a b ha hb w hin
set_option maxRecDepth 100000 in
set_option maxHeartbeats 4000000 in
theorem rfr_any (x : Ev.X) (a b : Nat) (ha : a < x.ev.length) (hb : b < x.ev.length) (hck : Ev.check x = 0) (w : World) (hin : Ev.XIn w x) :
    Calls Tryz.prog 44 #[Ev.exV x, .int .i64 (a : Int), .int .i64 (b : Int)] w fun e w' => e = .returned (.bool (Ev.isFr x a b)) ∧ Below w.heap.size w w' := by
  have HIN := Lib.hid hin
  have hl1 := hin.ev.le; have hl2 := hin.ev.max
  obtain ⟨B, hB⟩ : ∃ B, B = w.alloc (Obj.cells (Ev.xcells x).toArray 26) := ⟨_, rfl⟩
  have HB := Lib.hid hB
  have B0 := Lib.hid (show Below w.heap.size w B by rw [hB]; exact (Below.refl w.heap.size w).alloc (Nat.le_refl _) _)
  have HX := Lib.hid (show Ev.XIn B x from hin.kp (Ev.kp_below B0.out))
  have RX := Lib.hid (show B.heap[w.heap.size]? = some (.cells (Ev.xcells x).toArray 26 (0, 0)) by rw [hB]; exact heap_alloc_new _ _)
  clear hin hB
  obtain ⟨ea, hea⟩ : ∃ e, x.ev[a]? = some e := ⟨_, List.getElem?_eq_getElem ha⟩
  obtain ⟨ga, oa, ega, hca⟩ := HX.out.ev.at_ hea
  have hna := Ev.nth_some hea
  have hai : (a : Int) < (x.ev.length : Int) := by omega
  have LX := Lib.hid (fun z : Og.On B.heap.size B => Og.rowB (P := Tryz.prog) z 26 _ RX.out Tryz.underlying26 rfl (by kernel_rfl))
  obtain ⟨sa, hsa⟩ : ∃ s, Ev.loads ea.k = s := ⟨_, rfl⟩
  have HSA := Lib.hid hsa
  have hfs := HX.out.fr.2.1; have hfm := HX.out.fr.2.2.1
  have hfl := check_from hck
  have haf : (a : Int) < (x.fr.l.length : Int) := by omega
  have HRES := Lib.hid (show Ev.isFr x a b = (!(decide (a = b)) && sa && Ev.isCo x (Ev.frAt x a) b) by unfold Ev.isFr; rw [hna, hsa])
  have HFI := Lib.hid (show sa = true → ∃ f : Nat, f < x.ev.length ∧ x.fr.l[a]? = some (f : Int) ∧ Ev.frAt x a = f from fun h => Ev.from_in hck ha (by rw [hna, hsa]; exact h))
  have hza : ∀ z : Og.On B.heap.size B, ∀ i c, (Ev.cells ea)[i]? = some c → z.x.cell? ⟨ga, oa + a * 13 + i, none⟩ = some c := fun z i c hi => Og.cellB z (hca i c hi)
  have La := Lib.hid (fun z : Og.On B.heap.size B => Ev.ld (hza z))
  have cx : ∀ z : Og.On B.heap.size B, z.x.cell? ⟨w.heap.size, 0, none⟩ = some (.slice (some ⟨ga, oa, none⟩) x.ev.length x.ce) := fun z => Og.cellB z (by rw [← ega]; exact Ev.xcell0 RX.out)
  clear hea ega hca hna hza hsa hck hfl
  unfold Ev.exV Ev.xcells
  go_enter Tryz.func44, Tryz.ntmps44
  by_cases hab : a = b
  · have tab : (a != b) = false := by simp [hab]
    have tab2 : ((a : Int) != (b : Int)) = false := by simp [hab]
    have HF := Lib.hid (show Ev.isFr x a b = false by rw [HRES.out, decide_eq_true hab]; rfl)
    clear hab
    go_wp2
    rw [show w.alloc (Obj.cells #[Value.slice x.ae x.ev.length x.ce, Value.slice x.fr.a x.fr.l.length x.fr.c, Value.slice x.ao x.od.length x.co] 26) = B from HB.out.symm]
    refine Og.regionB (by kernel_rfl) (by kernel_rfl) ?_
    repeat (first
      | go_big_quiet_skip
      | (go_big_quiet_want
         first
          | (go_big_quiet_op
             first
              | go_big_quiet_on)))
    refine wpQuiet_nil ?_
    intro _ hw'
    obtain ⟨q9, hw''⟩ := hw'
    subst hw''
    have HEND := Lib.hid (B0.out.trans (q9.b.mono B0.out.size))
    go_wp2_with fail
    go_ret
    exact ⟨by rw [HF.out]; rfl, HEND.out⟩
  have tab : (a != b) = true := by simpa using hab
  have tab2 : ((a : Int) != (b : Int)) = true := by simp; omega
  have HR2 := Lib.hid (show Ev.isFr x a b = (sa && Ev.isCo x (Ev.frAt x a) b) by rw [HRES.out, decide_eq_false hab]; rfl)
  clear hab
  cases sa
  · have HF := Lib.hid (show Ev.isFr x a b = false by rw [HR2.out]; rfl)
    go_wp2
    rw [show w.alloc (Obj.cells #[Value.slice x.ae x.ev.length x.ce, Value.slice x.fr.a x.fr.l.length x.fr.c, Value.slice x.ao x.od.length x.co] 26) = B from HB.out.symm]
    refine Og.regionB (by kernel_rfl) (by kernel_rfl) ?_
    repeat (first
      | go_big_quiet_skip
      | (go_big_quiet_want
         first
          | ((with_reducible show Oper.quiet _ (Oper.mk (some 15) _ _ _ _ _) _ _ _); refine Og.quiet_load 48 (.tmp 14) rfl (.agg (Ev.cells ea).toArray) ⟨ga, oa + a * 13, none⟩ _ rfl (by rintro _ ⟨z, rfl⟩; exact La.out z) (by simp only [Act.put, List.setIfInBounds_toArray, List.set_cons_zero, List.set_cons_succ]; rfl) ?_
             go_big_quiet_on)
          | (go_big_quiet_op
             first
              | go_big_quiet_on
              | (apply Exists.intro
                 refine ⟨fun z => ?_, ?_⟩
                 · first
                    | (with_reducible exact Og.callB (rloads_is HSA.out _))
                 go_big_quiet_on))))
    refine wpQuiet_nil ?_
    intro _ hw'
    obtain ⟨q9, hw''⟩ := hw'
    subst hw''
    have HEND := Lib.hid (B0.out.trans (q9.b.mono B0.out.size))
    go_wp2_with fail
    go_ret
    exact ⟨by rw [HF.out]; rfl, HEND.out⟩
  obtain ⟨f, hf, hfa, hfr⟩ := HFI.out rfl
  obtain ⟨v, hv⟩ : ∃ v, Ev.isCo x (f : Int) b = v := ⟨_, rfl⟩
  have HV := Lib.hid hv
  have HF := Lib.hid (show Ev.isFr x a b = v by rw [HR2.out, hfr, hv]; rfl)
  obtain ⟨gf, of, ef, hcf⟩ := HX.out.fr.at_ hfa
  have cx1 : ∀ z : Og.On B.heap.size B, z.x.cell? ⟨w.heap.size, 1, none⟩ = some (.slice (some ⟨gf, of, none⟩) x.fr.l.length x.fr.c) := fun z => Og.cellB z (by rw [← ef]; exact Ev.xcell1 RX.out)
  have cff : ∀ z : Og.On B.heap.size B, z.x.cell? ⟨gf, of + a, none⟩ = some (.int .i64 (f : Int)) := fun z => Og.cellB z hcf
  clear hv hfa hfr ef hcf
  go_wp2
  rw [show w.alloc (Obj.cells #[Value.slice x.ae x.ev.length x.ce, Value.slice x.fr.a x.fr.l.length x.fr.c, Value.slice x.ao x.od.length x.co] 26) = B from HB.out.symm]
  refine Og.regionB (by kernel_rfl) (by kernel_rfl) ?_
  repeat (first
    | go_big_quiet_skip
    | (go_big_quiet_want
       first
        | ((with_reducible show Oper.quiet _ (Oper.mk (some 15) _ _ _ _ _) _ _ _); refine Og.quiet_load 48 (.tmp 14) rfl (.agg (Ev.cells ea).toArray) ⟨ga, oa + a * 13, none⟩ _ rfl (by rintro _ ⟨z, rfl⟩; exact La.out z) (by simp only [Act.put, List.setIfInBounds_toArray, List.set_cons_zero, List.set_cons_succ]; rfl) ?_
           go_big_quiet_on)
        | ((with_reducible show Oper.quiet _ (Oper.mk (some 19) _ _ _ _ _) _ _ _); refine Og.quiet_load 26 (.tmp 3) rfl (.agg (Ev.xcells x).toArray) ⟨w.heap.size, 0, none⟩ _ rfl (by rintro _ ⟨z, rfl⟩; exact LX.out z) (by simp only [Act.put, List.setIfInBounds_toArray, List.set_cons_zero, List.set_cons_succ]; rfl) ?_
           go_big_quiet_on)
        | (go_big_quiet_op
           first
            | go_big_quiet_on
            | (apply Exists.intro
               refine ⟨fun z => ?_, ?_⟩
               · first
                  | (with_reducible exact Og.callB (rloads_is HSA.out _))
                  | (with_reducible exact Og.callB (rco_is HV.out hf hb _ (HX.out.kp (Ev.kp_below z.b))))
               go_big_quiet_on))))
  refine wpQuiet_nil ?_
  intro _ hw'
  obtain ⟨q9, hw''⟩ := hw'
  subst hw''
  have HEND := Lib.hid (B0.out.trans (q9.b.mono B0.out.size))
  go_wp2_with fail
  go_ret
  exact ⟨by rw [HF.out]; rfl, HEND.out⟩
end Go.Proofs.YtecnnkidalkmfaaGreat
end

section
namespace Go.Proofs.YtecnnkidalkmfaaGreat
open Go.RowKit
set_option linter.unusedVariables false
set_option linter.unusedSimpArgs false
namespace Ev
end Ev
namespace Ev
theorem PairsIn.at_ {w : World} {a : Option Addr} {c : Nat} {ps : List (Nat × Nat)} (h : PairsIn w a c ps) {k : Nat} {p : Nat × Nat} (hk : ps[k]? = some p) :
    ∃ g o, a = some ⟨g, o, none⟩ ∧ ∀ i c, (pv p)[i]? = some c → w.cell? ⟨g, o + k * 2 + i, none⟩ = some c := by
  have hl := (List.getElem?_eq_some_iff.1 hk).1
  obtain ⟨g, o, e, hc⟩ := h.rows (by simp; omega)
  exact ⟨g, o, e, fun i c hi => hc k (pv p) (by rw [List.getElem?_map, hk]; rfl) i c hi⟩
theorem PairsIn.kp {w w' : World} {a : Option Addr} {c : Nat} {ps : List (Nat × Nat)} (h : PairsIn w a c ps) (k : Kp w w') : PairsIn w' a c ps := ⟨h.rows.kp k, h.le, h.max⟩
end Ev
set_option maxRecDepth 100000 in
set_option maxHeartbeats 2000000 in
/-- two lists that are alike -/
theorem samePairs_yes (a b : Option Addr) (c d : Nat) (ps : List (Nat × Nat)) (w : World) (ha : Ev.PairsIn w a c ps) (hb : Ev.PairsIn w b d ps) :
    Calls Tryz.prog 22 #[.slice a ps.length c, .slice b ps.length d] w fun e w' => e = .returned (.bool true) ∧ Below w.heap.size w w' := by
  have HA := Lib.hid ha; have HB := Lib.hid hb
  have h1 := ha.le; have h2 := ha.max; have h3 := hb.le; have h4 := hb.max
  clear ha hb
  have tn : ((ps.length : Int) != (ps.length : Int)) = false := by simp
  go_enter Tryz.func22, Tryz.ntmps22
  go_wp2
  go_loopw [5] (fun i wr => ∃ k : Nat, k ≤ ps.length ∧ i = .int .i64 (k : Int) ∧ Below w.heap.size w wr) (fun i _ => ps.length - (intOf i).toNat)
  case atStart => exact ⟨0, Nat.zero_le _, rfl, Below.refl _ _⟩
  case round =>
    obtain ⟨k, hk, rfl, hbr⟩ := hrel
    have HBR := Lib.hid hbr; clear hbr
    by_cases hlt : k < ps.length
    · obtain ⟨p, hp⟩ : ∃ p, ps[k]? = some p := ⟨_, List.getElem?_eq_getElem hlt⟩
      obtain ⟨g, o, ea, hca⟩ := (HA.out.kp (Ev.kp_below HBR.out)).at_ hp
      obtain ⟨g', o', eb, hcb⟩ := (HB.out.kp (Ev.kp_below HBR.out)).at_ hp
      have hki : (k : Int) < (ps.length : Int) := by omega
      have LA := Lib.hid (fun z : Og.On wr.heap.size wr => run_loadVar_at (P := Tryz.prog) z.x g (o + k * 2) 72 [.int .i64 (p.1 : Int), .int .i64 (p.2 : Int)] _ (fun i v hv => Og.cellB z (hca i v hv)) Tryz.underlying72 rfl (by kernel_rfl))
      have LB := Lib.hid (fun z : Og.On wr.heap.size wr => run_loadVar_at (P := Tryz.prog) z.x g' (o' + k * 2) 72 [.int .i64 (p.1 : Int), .int .i64 (p.2 : Int)] _ (fun i v hv => Og.cellB z (hcb i v hv)) Tryz.underlying72 rfl (by kernel_rfl))
      rw [ea, eb]
      clear hp ea eb hca hcb
      go_wp2
      refine Og.regionB (by kernel_rfl) (by kernel_rfl) ?_
      repeat (first
        | go_big_quiet_skip
        | (go_big_quiet_want
           first
            | ((with_reducible show Oper.quiet _ (Oper.mk (some 20) _ _ _ _ _) _ _ _); refine Og.quiet_load 72 (.tmp 19) rfl (.agg [Value.int .i64 (p.1 : Int), Value.int .i64 (p.2 : Int)].toArray) ⟨g, o + k * 2, none⟩ _ rfl (by rintro _ ⟨z, rfl⟩; exact LA.out z) (by simp only [Act.put, List.setIfInBounds_toArray, List.set_cons_zero, List.set_cons_succ]; rfl) ?_
               go_big_quiet_on)
            | ((with_reducible show Oper.quiet _ (Oper.mk (some 24) _ _ _ _ _) _ _ _); refine Og.quiet_load 72 (.tmp 23) rfl (.agg [Value.int .i64 (p.1 : Int), Value.int .i64 (p.2 : Int)].toArray) ⟨g', o' + k * 2, none⟩ _ rfl (by rintro _ ⟨z, rfl⟩; exact LB.out z) (by simp only [Act.put, List.setIfInBounds_toArray, List.set_cons_zero, List.set_cons_succ]; rfl) ?_
               go_big_quiet_on)
            | (go_big_quiet_op
               first
                | go_big_quiet_on)))
      refine wpQuiet_nil ?_
      intro _ hw'
      obtain ⟨q9, hw''⟩ := hw'
      subst hw''
      have HEND := Lib.hid (HBR.out.trans (q9.b.mono HBR.out.size))
      go_wp2_with fail
      go_roundw
      case rel => exact ⟨k + 1, by omega, by go_num, HEND.out⟩
      case measure => simp [intOf]; omega
    · have hki : ¬ (k : Int) < (ps.length : Int) := by omega
      go_wp2
      go_ret
      exact ⟨rfl, HBR.out⟩
end Go.Proofs.YtecnnkidalkmfaaGreat
end

section
namespace Go.Proofs.YtecnnkidalkmfaaGreat
open Go.RowKit
set_option linter.unusedVariables false
set_option linter.unusedSimpArgs false
namespace Ev
theorem nodup_of_len {α : Type} [DecidableEq α] : ∀ {b a : List α}, a.Nodup → (∀ x ∈ a, x ∈ b) → b.length ≤ a.length → b.Nodup
  | [], _, _, _, _ => List.nodup_nil
  | y :: s, a, ha, hs, hl => by
    rw [List.nodup_cons]
    constructor
    · intro hy
      have := nodup_le (a := a) (b := s) ha fun x hx => by
        rcases List.mem_cons.1 (hs x hx) with rfl | h
        · exact hy
        · exact h
      simp only [List.length_cons] at hl
      omega
    · refine nodup_of_len (a := a.erase y) (ha.erase y) (fun x hx => ?_) ?_
      · have hm := List.mem_of_mem_erase hx
        rcases List.mem_cons.1 (hs x hm) with rfl | h
        · exact absurd hx (List.Nodup.not_mem_erase ha)
        · exact h
      · have := List.le_length_erase (l := a) (a := y)
        simp only [List.length_cons] at hl
        omega
/-- the numbers of the stores of an address -/
def sts (xs : List R) (y : Int) : List Int := ((List.range xs.length).filter fun i : Nat => isSt y (nth xs (i : Int))).map fun i : Nat => (i : Int)
theorem sts_mem {xs : List R} {y n : Int} : n ∈ sts xs y ↔ ∃ i : Nat, i < xs.length ∧ isSt y (nth xs (i : Int)) = true ∧ n = i := by
  unfold sts
  rw [List.mem_map]
  constructor
  · rintro ⟨i, hi, rfl⟩
    rw [List.mem_filter, List.mem_range] at hi
    exact ⟨i, hi.1, hi.2, rfl⟩
  · rintro ⟨i, hi, hq, rfl⟩
    exact ⟨i, List.mem_filter.2 ⟨List.mem_range.2 hi, hq⟩, rfl⟩
theorem sts_nodup (xs : List R) (y : Int) : (sts xs y).Nodup := by
  unfold sts
  rw [List.Nodup, List.pairwise_map]
  exact (List.nodup_range.filter _).imp fun {a b} h e => h (by have e2 : (a : Int) = (b : Int) := e; omega)
theorem range_map (xs : List R) : (List.range xs.length).map (fun i : Nat => nth xs (i : Int)) = xs := by
  apply List.ext_getElem
  · simp
  · intro i h1 h2
    simp only [List.getElem_map, List.getElem_range]
    exact nth_get h2
theorem sts_len (xs : List R) (y : Int) : (sts xs y).length = cnt xs y := by
  unfold sts cnt
  rw [List.length_map]
  conv => rhs; rw [← range_map xs]
  rw [List.filter_map, List.length_map]
  rfl
/-- the list of an address, in the document's words -/
def rOrd (xs : List R) (A b : Int) (s : List Int) : Prop := (∀ i : Nat, i < xs.length → stores (nth xs i).k = true → (nth xs i).a = A → (i : Int) ∈ s) ∧ s.length = cnt xs A ∧ s.getD 0 0 = b
theorem ord_iff {xs : List R} {od : List Sl} {s : Sl} {b : Nat} (hs : od[b]? = some s) {A : Int} (hA : (nth xs b).a = A) : orderAt xs od b = true ↔ rOrd xs A b s.l := by
  unfold orderAt rOrd
  rw [hs]
  simp only [Bool.and_eq_true, beq_iff_eq]
  rw [hA]
  unfold onceOk
  rw [Bool.and_eq_true, List.all_eq_true, decide_eq_true_eq]
  have hone : ∀ n, s.l.getD 0 0 = (b : Int) → (onceAt xs (s.l.getD 0 0) n = true ↔ n ∈ sts xs A) := fun n h0 => by
    rw [h0, sts_mem]
    unfold onceAt inB isSt
    rw [hA]
    simp only [Bool.and_eq_true, decide_eq_true_eq, beq_iff_eq]
    constructor
    · rintro ⟨⟨⟨h1, h2⟩, h3⟩, h4⟩
      obtain ⟨i, rfl⟩ : ∃ i : Nat, n = i := ⟨n.toNat, by omega⟩
      exact ⟨i, by omega, ⟨h3, h4⟩, rfl⟩
    · rintro ⟨i, hi, ⟨h3, h4⟩, rfl⟩
      exact ⟨⟨⟨by omega, by omega⟩, h3⟩, h4⟩
  constructor
  · rintro ⟨⟨h1, h2⟩, h3, h4⟩
    refine ⟨fun i hi hk ha => ?_, h1, h2⟩
    refine back_of_len (a := s.l) (b := sts xs A) h4 ?_ (fun n hn => (hone n h2).1 (h3 n hn)) _ (sts_mem.2 ⟨i, hi, ?_, rfl⟩)
    · rw [sts_len]; omega
    · unfold isSt; rw [hk, ha]; simp
  · rintro ⟨h1, h2, h3⟩
    have hsub : ∀ n ∈ sts xs A, n ∈ s.l := fun n hn => by
      obtain ⟨i, hi, hq, rfl⟩ := sts_mem.1 hn
      unfold isSt at hq
      simp only [Bool.and_eq_true, beq_iff_eq] at hq
      exact h1 i hi hq.1 hq.2
    have hl : s.l.length ≤ (sts xs A).length := by rw [sts_len]; omega
    exact ⟨⟨h2, h3⟩, fun n hn => (hone n h3).2 (back_of_len (sts_nodup xs A) hl hsub n hn), nodup_of_len (sts_nodup xs A) hsub hl⟩
end Ev
end Go.Proofs.YtecnnkidalkmfaaGreat
end
