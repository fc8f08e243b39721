import Derived.Test.YtecnnkidalkmfaaGreatKb23
set_option linter.unusedVariables false
set_option linter.unusedSimpArgs false

section
namespace Go.Proofs.YtecnnkidalkmfaaGreat
open Go.RowKit
set_option maxRecDepth 100000 in
set_option maxHeartbeats 4000000 in
theorem rco_any (x : Ev.X) (a b : Nat) (ha : a < x.ev.length) (hb : b < x.ev.length) (w : World) (hin : Ev.XIn w x) :
    Calls Tryz.prog 39 #[Ev.exV x, .int .i64 (a : Int), .int .i64 (b : Int)] w fun e w' => e = .returned (.bool (Ev.isCo x a b)) ∧ Below w.heap.size w w' := by
  have HIN := Lib.hid hin
  have hl1 := hin.ev.le; have hl2 := hin.ev.max
  obtain ⟨B, hB⟩ : ∃ B, B = w.alloc (Obj.cells (Ev.xcells x).toArray 26) := ⟨_, rfl⟩
  have HB := Lib.hid hB
  have B0 := Lib.hid (show Below w.heap.size w B by rw [hB]; exact (Below.refl w.heap.size w).alloc (Nat.le_refl _) _)
  have HX := Lib.hid (show Ev.XIn B x from hin.kp (Ev.kp_below B0.out))
  have RX := Lib.hid (show B.heap[w.heap.size]? = some (.cells (Ev.xcells x).toArray 26 (0, 0)) by rw [hB]; exact heap_alloc_new _ _)
  clear hin hB
  obtain ⟨ea, hea⟩ : ∃ e, x.ev[a]? = some e := ⟨_, List.getElem?_eq_getElem ha⟩
  obtain ⟨ga, oa, ega, hca⟩ := HX.out.ev.at_ hea
  have hna := Ev.nth_some hea
  have hai : (a : Int) < (x.ev.length : Int) := by omega
  obtain ⟨eb, heb⟩ : ∃ e, x.ev[b]? = some e := ⟨_, List.getElem?_eq_getElem hb⟩
  obtain ⟨gb, ob, egb, hcb⟩ := HX.out.ev.at_ heb
  have hnb := Ev.nth_some heb
  have hbi : (b : Int) < (x.ev.length : Int) := by omega
  obtain ⟨rfl, rfl⟩ : gb = ga ∧ ob = oa := by rw [ega] at egb; cases egb; exact ⟨rfl, rfl⟩
  have LX := Lib.hid (fun z : Og.On B.heap.size B => Og.rowB (P := Tryz.prog) z 26 _ RX.out Tryz.underlying26 rfl (by kernel_rfl))
  obtain ⟨sa, hsa⟩ : ∃ s, Ev.stores ea.k = s := ⟨_, rfl⟩
  obtain ⟨sb, hsb⟩ : ∃ s, Ev.stores eb.k = s := ⟨_, rfl⟩
  obtain ⟨pa, hpa⟩ : ∃ s, Ev.place x (a : Int) = s := ⟨_, rfl⟩
  obtain ⟨pb, hpb⟩ : ∃ s, Ev.place x (b : Int) = s := ⟨_, rfl⟩
  have HSA := Lib.hid hsa; have HSB := Lib.hid hsb; have HPA := Lib.hid hpa; have HPB := Lib.hid hpb
  have HRES := Lib.hid (show Ev.isCo x a b = (sa && sb && ea.a == eb.a && decide (pa < pb)) by unfold Ev.isCo; rw [hna, hnb, hsa, hsb, hpa, hpb])
  have hza : ∀ z : Og.On B.heap.size B, ∀ i c, (Ev.cells ea)[i]? = some c → z.x.cell? ⟨gb, ob + a * 13 + i, none⟩ = some c := fun z i c hi => Og.cellB z (hca i c hi)
  have La := Lib.hid (fun z : Og.On B.heap.size B => Ev.ld (hza z))
  have ca2 : ∀ z : Og.On B.heap.size B, z.x.cell? ⟨gb, ob + a * 13 + 2, none⟩ = some (.int .u32 ea.a) := fun z => hza z 2 _ rfl
  have hzb : ∀ z : Og.On B.heap.size B, ∀ i c, (Ev.cells eb)[i]? = some c → z.x.cell? ⟨gb, ob + b * 13 + i, none⟩ = some c := fun z i c hi => Og.cellB z (hcb i c hi)
  have Lb := Lib.hid (fun z : Og.On B.heap.size B => Ev.ld (hzb z))
  have cb2 : ∀ z : Og.On B.heap.size B, z.x.cell? ⟨gb, ob + b * 13 + 2, none⟩ = some (.int .u32 eb.a) := fun z => hzb z 2 _ rfl
  have cx : ∀ z : Og.On B.heap.size B, z.x.cell? ⟨w.heap.size, 0, none⟩ = some (.slice (some ⟨gb, ob, none⟩) x.ev.length x.ce) := fun z => Og.cellB z (by rw [← egb]; exact Ev.xcell0 RX.out)
  clear hea heb ega hca hcb hna hnb hza hzb egb hsa hsb hpa hpb
  unfold Ev.exV Ev.xcells
  go_enter Tryz.func39, Tryz.ntmps39
  cases sa
  · have HF := Lib.hid (show Ev.isCo x a b = false by rw [HRES.out]; rfl)
    go_wp2
    rw [show w.alloc (Obj.cells #[Value.slice x.ae x.ev.length x.ce, Value.slice x.fr.a x.fr.l.length x.fr.c, Value.slice x.ao x.od.length x.co] 26) = B from HB.out.symm]
    refine Og.regionB (by kernel_rfl) (by kernel_rfl) ?_
    repeat (first
      | go_big_quiet_skip
      | (go_big_quiet_want
         first
          | ((with_reducible show Oper.quiet _ (Oper.mk (some 11) _ _ _ _ _) _ _ _); refine Og.quiet_load 48 (.tmp 10) rfl (.agg (Ev.cells ea).toArray) ⟨gb, ob + a * 13, none⟩ _ rfl (by rintro _ ⟨z, rfl⟩; exact La.out z) (by simp only [Act.put, List.setIfInBounds_toArray, List.set_cons_zero, List.set_cons_succ]; rfl) ?_
             go_big_quiet_on)
          | (go_big_quiet_op
             first
              | go_big_quiet_on
              | (apply Exists.intro
                 refine ⟨fun z => ?_, ?_⟩
                 · first
                    | (with_reducible exact Og.callB (rstores_is HSA.out _))
                 go_big_quiet_on))))
    refine wpQuiet_nil ?_
    intro _ hw'
    obtain ⟨q9, hw''⟩ := hw'
    subst hw''
    have HEND := Lib.hid (B0.out.trans (q9.b.mono B0.out.size))
    go_wp2_with fail
    go_ret
    exact ⟨by rw [HF.out]; rfl, HEND.out⟩
  cases sb
  · have HF := Lib.hid (show Ev.isCo x a b = false by rw [HRES.out]; rfl)
    go_wp2
    rw [show w.alloc (Obj.cells #[Value.slice x.ae x.ev.length x.ce, Value.slice x.fr.a x.fr.l.length x.fr.c, Value.slice x.ao x.od.length x.co] 26) = B from HB.out.symm]
    refine Og.regionB (by kernel_rfl) (by kernel_rfl) ?_
    repeat (first
      | go_big_quiet_skip
      | (go_big_quiet_want
         first
          | ((with_reducible show Oper.quiet _ (Oper.mk (some 11) _ _ _ _ _) _ _ _); refine Og.quiet_load 48 (.tmp 10) rfl (.agg (Ev.cells ea).toArray) ⟨gb, ob + a * 13, none⟩ _ rfl (by rintro _ ⟨z, rfl⟩; exact La.out z) (by simp only [Act.put, List.setIfInBounds_toArray, List.set_cons_zero, List.set_cons_succ]; rfl) ?_
             go_big_quiet_on)
          | ((with_reducible show Oper.quiet _ (Oper.mk (some 18) _ _ _ _ _) _ _ _); refine Og.quiet_load 48 (.tmp 17) rfl (.agg (Ev.cells eb).toArray) ⟨gb, ob + b * 13, none⟩ _ rfl (by rintro _ ⟨z, rfl⟩; exact Lb.out z) (by simp only [Act.put, List.setIfInBounds_toArray, List.set_cons_zero, List.set_cons_succ]; rfl) ?_
             go_big_quiet_on)
          | (go_big_quiet_op
             first
              | go_big_quiet_on
              | (apply Exists.intro
                 refine ⟨fun z => ?_, ?_⟩
                 · first
                    | (with_reducible exact Og.callB (rstores_is HSA.out _))
                    | (with_reducible exact Og.callB (rstores_is HSB.out _))
                 go_big_quiet_on))))
    refine wpQuiet_nil ?_
    intro _ hw'
    obtain ⟨q9, hw''⟩ := hw'
    subst hw''
    have HEND := Lib.hid (B0.out.trans (q9.b.mono B0.out.size))
    go_wp2_with fail
    go_ret
    exact ⟨by rw [HF.out]; rfl, HEND.out⟩
  by_cases h3 : ea.a = eb.a
  case neg =>
    have t3 : (ea.a == eb.a) = false := by simpa using h3
    have HF := Lib.hid (show Ev.isCo x a b = false by rw [HRES.out, t3]; rfl)
    clear h3
    go_wp2
    rw [show w.alloc (Obj.cells #[Value.slice x.ae x.ev.length x.ce, Value.slice x.fr.a x.fr.l.length x.fr.c, Value.slice x.ao x.od.length x.co] 26) = B from HB.out.symm]
    refine Og.regionB (by kernel_rfl) (by kernel_rfl) ?_
    repeat (first
      | go_big_quiet_skip
      | (go_big_quiet_want
         first
          | ((with_reducible show Oper.quiet _ (Oper.mk (some 11) _ _ _ _ _) _ _ _); refine Og.quiet_load 48 (.tmp 10) rfl (.agg (Ev.cells ea).toArray) ⟨gb, ob + a * 13, none⟩ _ rfl (by rintro _ ⟨z, rfl⟩; exact La.out z) (by simp only [Act.put, List.setIfInBounds_toArray, List.set_cons_zero, List.set_cons_succ]; rfl) ?_
             go_big_quiet_on)
          | ((with_reducible show Oper.quiet _ (Oper.mk (some 18) _ _ _ _ _) _ _ _); refine Og.quiet_load 48 (.tmp 17) rfl (.agg (Ev.cells eb).toArray) ⟨gb, ob + b * 13, none⟩ _ rfl (by rintro _ ⟨z, rfl⟩; exact Lb.out z) (by simp only [Act.put, List.setIfInBounds_toArray, List.set_cons_zero, List.set_cons_succ]; rfl) ?_
             go_big_quiet_on)
          | (go_big_quiet_op
             first
              | go_big_quiet_on
              | (apply Exists.intro
                 refine ⟨fun z => ?_, ?_⟩
                 · first
                    | (with_reducible exact Og.callB (rstores_is HSA.out _))
                    | (with_reducible exact Og.callB (rstores_is HSB.out _))
                 go_big_quiet_on))))
    refine wpQuiet_nil ?_
    intro _ hw'
    obtain ⟨q9, hw''⟩ := hw'
    subst hw''
    have HEND := Lib.hid (B0.out.trans (q9.b.mono B0.out.size))
    go_wp2_with fail
    go_ret
    exact ⟨by rw [HF.out]; rfl, HEND.out⟩
  have t3 : (ea.a == eb.a) = true := by simpa using h3
  by_cases h4 : pa < pb
  · have t4 : decide (pa < pb) = true := decide_eq_true h4
    have HF := Lib.hid (show Ev.isCo x a b = true by rw [HRES.out, t3, t4]; rfl)
    clear h3
    go_wp2
    rw [show w.alloc (Obj.cells #[Value.slice x.ae x.ev.length x.ce, Value.slice x.fr.a x.fr.l.length x.fr.c, Value.slice x.ao x.od.length x.co] 26) = B from HB.out.symm]
    refine Og.regionB (by kernel_rfl) (by kernel_rfl) ?_
    repeat (first
      | go_big_quiet_skip
      | (go_big_quiet_want
         first
          | ((with_reducible show Oper.quiet _ (Oper.mk (some 11) _ _ _ _ _) _ _ _); refine Og.quiet_load 48 (.tmp 10) rfl (.agg (Ev.cells ea).toArray) ⟨gb, ob + a * 13, none⟩ _ rfl (by rintro _ ⟨z, rfl⟩; exact La.out z) (by simp only [Act.put, List.setIfInBounds_toArray, List.set_cons_zero, List.set_cons_succ]; rfl) ?_
             go_big_quiet_on)
          | ((with_reducible show Oper.quiet _ (Oper.mk (some 18) _ _ _ _ _) _ _ _); refine Og.quiet_load 48 (.tmp 17) rfl (.agg (Ev.cells eb).toArray) ⟨gb, ob + b * 13, none⟩ _ rfl (by rintro _ ⟨z, rfl⟩; exact Lb.out z) (by simp only [Act.put, List.setIfInBounds_toArray, List.set_cons_zero, List.set_cons_succ]; rfl) ?_
             go_big_quiet_on)
          | ((with_reducible show Oper.quiet _ (Oper.mk (some 37) _ _ _ _ _) _ _ _); refine Og.quiet_load 26 (.tmp 3) rfl (.agg (Ev.xcells x).toArray) ⟨w.heap.size, 0, none⟩ _ rfl (by rintro _ ⟨z, rfl⟩; exact LX.out z) (by simp only [Act.put, List.setIfInBounds_toArray, List.set_cons_zero, List.set_cons_succ]; rfl) ?_
             go_big_quiet_on)
          | ((with_reducible show Oper.quiet _ (Oper.mk (some 40) _ _ _ _ _) _ _ _); refine Og.quiet_load 26 (.tmp 3) rfl (.agg (Ev.xcells x).toArray) ⟨w.heap.size, 0, none⟩ _ rfl (by rintro _ ⟨z, rfl⟩; exact LX.out z) (by simp only [Act.put, List.setIfInBounds_toArray, List.set_cons_zero, List.set_cons_succ]; rfl) ?_
             go_big_quiet_on)
          | (go_big_quiet_op
             first
              | go_big_quiet_on
              | (apply Exists.intro
                 refine ⟨fun z => ?_, ?_⟩
                 · first
                    | (with_reducible exact Og.callB (rstores_is HSA.out _))
                    | (with_reducible exact Og.callB (rstores_is HSB.out _))
                    | (with_reducible exact Og.callB (rplace_is HPA.out _ (HX.out.kp (Ev.kp_below z.b))))
                    | (with_reducible exact Og.callB (rplace_is HPB.out _ (HX.out.kp (Ev.kp_below z.b))))
                 go_big_quiet_on))))
    refine wpQuiet_nil ?_
    intro _ hw'
    obtain ⟨q9, hw''⟩ := hw'
    subst hw''
    have HEND := Lib.hid (B0.out.trans (q9.b.mono B0.out.size))
    go_wp2_with fail
    go_ret
    exact ⟨by rw [HF.out]; rfl, HEND.out⟩
  · have t4 : decide (pa < pb) = false := decide_eq_false h4
    have HF := Lib.hid (show Ev.isCo x a b = false by rw [HRES.out, t3, t4]; rfl)
    clear h3
    go_wp2
    rw [show w.alloc (Obj.cells #[Value.slice x.ae x.ev.length x.ce, Value.slice x.fr.a x.fr.l.length x.fr.c, Value.slice x.ao x.od.length x.co] 26) = B from HB.out.symm]
    refine Og.regionB (by kernel_rfl) (by kernel_rfl) ?_
    repeat (first
      | go_big_quiet_skip
      | (go_big_quiet_want
         first
          | ((with_reducible show Oper.quiet _ (Oper.mk (some 11) _ _ _ _ _) _ _ _); refine Og.quiet_load 48 (.tmp 10) rfl (.agg (Ev.cells ea).toArray) ⟨gb, ob + a * 13, none⟩ _ rfl (by rintro _ ⟨z, rfl⟩; exact La.out z) (by simp only [Act.put, List.setIfInBounds_toArray, List.set_cons_zero, List.set_cons_succ]; rfl) ?_
             go_big_quiet_on)
          | ((with_reducible show Oper.quiet _ (Oper.mk (some 18) _ _ _ _ _) _ _ _); refine Og.quiet_load 48 (.tmp 17) rfl (.agg (Ev.cells eb).toArray) ⟨gb, ob + b * 13, none⟩ _ rfl (by rintro _ ⟨z, rfl⟩; exact Lb.out z) (by simp only [Act.put, List.setIfInBounds_toArray, List.set_cons_zero, List.set_cons_succ]; rfl) ?_
             go_big_quiet_on)
          | ((with_reducible show Oper.quiet _ (Oper.mk (some 37) _ _ _ _ _) _ _ _); refine Og.quiet_load 26 (.tmp 3) rfl (.agg (Ev.xcells x).toArray) ⟨w.heap.size, 0, none⟩ _ rfl (by rintro _ ⟨z, rfl⟩; exact LX.out z) (by simp only [Act.put, List.setIfInBounds_toArray, List.set_cons_zero, List.set_cons_succ]; rfl) ?_
             go_big_quiet_on)
          | ((with_reducible show Oper.quiet _ (Oper.mk (some 40) _ _ _ _ _) _ _ _); refine Og.quiet_load 26 (.tmp 3) rfl (.agg (Ev.xcells x).toArray) ⟨w.heap.size, 0, none⟩ _ rfl (by rintro _ ⟨z, rfl⟩; exact LX.out z) (by simp only [Act.put, List.setIfInBounds_toArray, List.set_cons_zero, List.set_cons_succ]; rfl) ?_
             go_big_quiet_on)
          | (go_big_quiet_op
             first
              | go_big_quiet_on
              | (apply Exists.intro
                 refine ⟨fun z => ?_, ?_⟩
                 · first
                    | (with_reducible exact Og.callB (rstores_is HSA.out _))
                    | (with_reducible exact Og.callB (rstores_is HSB.out _))
                    | (with_reducible exact Og.callB (rplace_is HPA.out _ (HX.out.kp (Ev.kp_below z.b))))
                    | (with_reducible exact Og.callB (rplace_is HPB.out _ (HX.out.kp (Ev.kp_below z.b))))
                 go_big_quiet_on))))
    refine wpQuiet_nil ?_
    intro _ hw'
    obtain ⟨q9, hw''⟩ := hw'
    subst hw''
    have HEND := Lib.hid (B0.out.trans (q9.b.mono B0.out.size))
    go_wp2_with fail
    go_ret
    exact ⟨by rw [HF.out]; rfl, HEND.out⟩
theorem rco_is {x : Ev.X} {a b : Nat} {v : Bool} (h : Ev.isCo x a b = v) (ha : a < x.ev.length) (hb : b < x.ev.length) (w : World) (hin : Ev.XIn w x) :
    Calls Tryz.prog 39 #[.agg (Ev.xcells x).toArray, .int .i64 (a : Int), .int .i64 (b : Int)] w fun e w' => e = .returned (.bool v) ∧ Below w.heap.size w w' := h ▸ rco_any x a b ha hb w hin
set_option maxRecDepth 100000 in
set_option maxHeartbeats 4000000 in
theorem rfr_any (x : Ev.X) (a b : Nat) (ha : a < x.ev.length) (hb : b < x.ev.length) (hck : Ev.check x = 0) (w : World) (hin : Ev.XIn w x) :
    Calls Tryz.prog 44 #[Ev.exV x, .int .i64 (a : Int), .int .i64 (b : Int)] w fun e w' => e = .returned (.bool (Ev.isFr x a b)) ∧ Below w.heap.size w w' := by
  have HIN := Lib.hid hin
  have hl1 := hin.ev.le; have hl2 := hin.ev.max
  obtain ⟨B, hB⟩ : ∃ B, B = w.alloc (Obj.cells (Ev.xcells x).toArray 26) := ⟨_, rfl⟩
  have HB := Lib.hid hB
  have B0 := Lib.hid (show Below w.heap.size w B by rw [hB]; exact (Below.refl w.heap.size w).alloc (Nat.le_refl _) _)
  have HX := Lib.hid (show Ev.XIn B x from hin.kp (Ev.kp_below B0.out))
  have RX := Lib.hid (show B.heap[w.heap.size]? = some (.cells (Ev.xcells x).toArray 26 (0, 0)) by rw [hB]; exact heap_alloc_new _ _)
  clear hin hB
  obtain ⟨ea, hea⟩ : ∃ e, x.ev[a]? = some e := ⟨_, List.getElem?_eq_getElem ha⟩
  obtain ⟨ga, oa, ega, hca⟩ := HX.out.ev.at_ hea
  have hna := Ev.nth_some hea
  have hai : (a : Int) < (x.ev.length : Int) := by omega
  have LX := Lib.hid (fun z : Og.On B.heap.size B => Og.rowB (P := Tryz.prog) z 26 _ RX.out Tryz.underlying26 rfl (by kernel_rfl))
  obtain ⟨sa, hsa⟩ : ∃ s, Ev.loads ea.k = s := ⟨_, rfl⟩
  have HSA := Lib.hid hsa
  have hfs := HX.out.fr.2.1; have hfm := HX.out.fr.2.2.1
  have hfl := check_from hck
  have haf : (a : Int) < (x.fr.l.length : Int) := by omega
  have HRES := Lib.hid (show Ev.isFr x a b = (!(decide (a = b)) && sa && Ev.isCo x (Ev.frAt x a) b) by unfold Ev.isFr; rw [hna, hsa])
  have HFI := Lib.hid (show sa = true → ∃ f : Nat, f < x.ev.length ∧ x.fr.l[a]? = some (f : Int) ∧ Ev.frAt x a = f from fun h => Ev.from_in hck ha (by rw [hna, hsa]; exact h))
  have hza : ∀ z : Og.On B.heap.size B, ∀ i c, (Ev.cells ea)[i]? = some c → z.x.cell? ⟨ga, oa + a * 13 + i, none⟩ = some c := fun z i c hi => Og.cellB z (hca i c hi)
  have La := Lib.hid (fun z : Og.On B.heap.size B => Ev.ld (hza z))
  have cx : ∀ z : Og.On B.heap.size B, z.x.cell? ⟨w.heap.size, 0, none⟩ = some (.slice (some ⟨ga, oa, none⟩) x.ev.length x.ce) := fun z => Og.cellB z (by rw [← ega]; exact Ev.xcell0 RX.out)
  clear hea ega hca hna hza hsa hck hfl
  unfold Ev.exV Ev.xcells
  go_enter Tryz.func44, Tryz.ntmps44
  by_cases hab : a = b
  · have tab : (a != b) = false := by simp [hab]
    have tab2 : ((a : Int) != (b : Int)) = false := by simp [hab]
    have HF := Lib.hid (show Ev.isFr x a b = false by rw [HRES.out, decide_eq_true hab]; rfl)
    clear hab
    go_wp2
    rw [show w.alloc (Obj.cells #[Value.slice x.ae x.ev.length x.ce, Value.slice x.fr.a x.fr.l.length x.fr.c, Value.slice x.ao x.od.length x.co] 26) = B from HB.out.symm]
    refine Og.regionB (by kernel_rfl) (by kernel_rfl) ?_
    repeat (first
      | go_big_quiet_skip
      | (go_big_quiet_want
         first
          | (go_big_quiet_op
             first
              | go_big_quiet_on)))
    refine wpQuiet_nil ?_
    intro _ hw'
    obtain ⟨q9, hw''⟩ := hw'
    subst hw''
    have HEND := Lib.hid (B0.out.trans (q9.b.mono B0.out.size))
    go_wp2_with fail
    go_ret
    exact ⟨by rw [HF.out]; rfl, HEND.out⟩
  have tab : (a != b) = true := by simpa using hab
  have tab2 : ((a : Int) != (b : Int)) = true := by simp; omega
  have HR2 := Lib.hid (show Ev.isFr x a b = (sa && Ev.isCo x (Ev.frAt x a) b) by rw [HRES.out, decide_eq_false hab]; rfl)
  clear hab
  cases sa
  · have HF := Lib.hid (show Ev.isFr x a b = false by rw [HR2.out]; rfl)
    go_wp2
    rw [show w.alloc (Obj.cells #[Value.slice x.ae x.ev.length x.ce, Value.slice x.fr.a x.fr.l.length x.fr.c, Value.slice x.ao x.od.length x.co] 26) = B from HB.out.symm]
    refine Og.regionB (by kernel_rfl) (by kernel_rfl) ?_
    repeat (first
      | go_big_quiet_skip
      | (go_big_quiet_want
         first
          | ((with_reducible show Oper.quiet _ (Oper.mk (some 15) _ _ _ _ _) _ _ _); refine Og.quiet_load 48 (.tmp 14) rfl (.agg (Ev.cells ea).toArray) ⟨ga, oa + a * 13, none⟩ _ rfl (by rintro _ ⟨z, rfl⟩; exact La.out z) (by simp only [Act.put, List.setIfInBounds_toArray, List.set_cons_zero, List.set_cons_succ]; rfl) ?_
             go_big_quiet_on)
          | (go_big_quiet_op
             first
              | go_big_quiet_on
              | (apply Exists.intro
                 refine ⟨fun z => ?_, ?_⟩
                 · first
                    | (with_reducible exact Og.callB (rloads_is HSA.out _))
                 go_big_quiet_on))))
    refine wpQuiet_nil ?_
    intro _ hw'
    obtain ⟨q9, hw''⟩ := hw'
    subst hw''
    have HEND := Lib.hid (B0.out.trans (q9.b.mono B0.out.size))
    go_wp2_with fail
    go_ret
    exact ⟨by rw [HF.out]; rfl, HEND.out⟩
  obtain ⟨f, hf, hfa, hfr⟩ := HFI.out rfl
  obtain ⟨v, hv⟩ : ∃ v, Ev.isCo x (f : Int) b = v := ⟨_, rfl⟩
  have HV := Lib.hid hv
  have HF := Lib.hid (show Ev.isFr x a b = v by rw [HR2.out, hfr, hv]; rfl)
  obtain ⟨gf, of, ef, hcf⟩ := HX.out.fr.at_ hfa
  have cx1 : ∀ z : Og.On B.heap.size B, z.x.cell? ⟨w.heap.size, 1, none⟩ = some (.slice (some ⟨gf, of, none⟩) x.fr.l.length x.fr.c) := fun z => Og.cellB z (by rw [← ef]; exact Ev.xcell1 RX.out)
  have cff : ∀ z : Og.On B.heap.size B, z.x.cell? ⟨gf, of + a, none⟩ = some (.int .i64 (f : Int)) := fun z => Og.cellB z hcf
  clear hv hfa hfr ef hcf
  go_wp2
  rw [show w.alloc (Obj.cells #[Value.slice x.ae x.ev.length x.ce, Value.slice x.fr.a x.fr.l.length x.fr.c, Value.slice x.ao x.od.length x.co] 26) = B from HB.out.symm]
  refine Og.regionB (by kernel_rfl) (by kernel_rfl) ?_
  repeat (first
    | go_big_quiet_skip
    | (go_big_quiet_want
       first
        | ((with_reducible show Oper.quiet _ (Oper.mk (some 15) _ _ _ _ _) _ _ _); refine Og.quiet_load 48 (.tmp 14) rfl (.agg (Ev.cells ea).toArray) ⟨ga, oa + a * 13, none⟩ _ rfl (by rintro _ ⟨z, rfl⟩; exact La.out z) (by simp only [Act.put, List.setIfInBounds_toArray, List.set_cons_zero, List.set_cons_succ]; rfl) ?_
           go_big_quiet_on)
        | ((with_reducible show Oper.quiet _ (Oper.mk (some 19) _ _ _ _ _) _ _ _); refine Og.quiet_load 26 (.tmp 3) rfl (.agg (Ev.xcells x).toArray) ⟨w.heap.size, 0, none⟩ _ rfl (by rintro _ ⟨z, rfl⟩; exact LX.out z) (by simp only [Act.put, List.setIfInBounds_toArray, List.set_cons_zero, List.set_cons_succ]; rfl) ?_
           go_big_quiet_on)
        | (go_big_quiet_op
           first
            | go_big_quiet_on
            | (apply Exists.intro
               refine ⟨fun z => ?_, ?_⟩
               · first
                  | (with_reducible exact Og.callB (rloads_is HSA.out _))
                  | (with_reducible exact Og.callB (rco_is HV.out hf hb _ (HX.out.kp (Ev.kp_below z.b))))
               go_big_quiet_on))))
  refine wpQuiet_nil ?_
  intro _ hw'
  obtain ⟨q9, hw''⟩ := hw'
  subst hw''
  have HEND := Lib.hid (B0.out.trans (q9.b.mono B0.out.size))
  go_wp2_with fail
  go_ret
  exact ⟨by rw [HF.out]; rfl, HEND.out⟩
end Go.Proofs.YtecnnkidalkmfaaGreat
end
