import Derived.Test.YtfajkgbpeapcbaaNa34
set_option linter.unusedVariables false
set_option linter.unusedSimpArgs false

section
namespace Go.Proofs.Ytfajkgbpeapcbaa
open Go.RowKit
namespace Hm
open Nt
set_option maxRecDepth 100000
section
variable {p : Nat} {d : Dt} {N : Nat} {H : Ho}
set_option maxHeartbeats 4000000 in
theorem entry_any (w : World) (h : Hd w p d N H) {n : Nat} (hn : n ≤ 4294967295) : Calls Try.prog 60 #[.pointer (some ⟨p, 0, none⟩), .int .u32 (n : Int)] w fun r w' => ∃ e, r = .returned (.pointer (some ⟨e, 0, none⟩)) ∧ EntAt w w' d n e ∧ Below w.heap.size w w' := by
  have c1 := h.c1
  have hlk := h.ma.look hn
  have HN := Lib.hid h.no
  cases he : d.ep n with
  | some e =>
    rw [he] at hlk
    have hlk : (Instr.lookup 90 (.map (some d.mb)) (.int .u32 (n : Int)) true).run Try.prog w = .ok (.tuple #[.pointer (some ⟨e, 0, none⟩), .bool true]) w := hlk
    have HE := Lib.hid he
    clear h he hn
    go_enter Try.func60, Try.ntmps60
    go_wp2
    go_ret
    exact ⟨e, rfl, .inl HE.out, Below.refl _ _⟩
  | none =>
    rw [he] at hlk
    have hlk : (Instr.lookup 90 (.map (some d.mb)) (.int .u32 (n : Int)) true).run Try.prog w = .ok (.tuple #[.pointer none, .bool false]) w := hlk
    have HE := Lib.hid he
    clear h he hn
    go_enter Try.func60, Try.ntmps60
    go_wp2
    go_ret
    exact ⟨w.heap.size, rfl, .inr ⟨HE.out, Nat.le_refl _, heap_alloc_new _ _⟩, (Below.refl _ _).alloc (Nat.le_refl _) _⟩
def refE (len : Nat) (m : E) : Int := if may m && (m.t == 4) then (if m.n.toNat * 16 < len then 0 else 4) else 2
set_option maxHeartbeats 4000000 in
theorem refusal_any (w : World) (h : Hd w p d N H) (m : E) (hm : Ok m) : Calls Try.prog 59 #[.pointer (some ⟨p, 0, none⟩), .agg (cells m).toArray] w fun r w' => r = .returned (.int .i64 (refE H.bs.length m)) ∧ Below w.heap.size w w' := by
  obtain ⟨mb, B, hmb, hB, hb0, hr0⟩ := msg_box w m
  have HB := Lib.hid hB; have HMB := Lib.hid hmb; have B0 := Lib.hid hb0; have R0 := Lib.hid hr0
  have H0 := Lib.hid (h.kp B0.out)
  obtain ⟨n, hn⟩ : ∃ n : Nat, m.n = (n : Int) := ⟨m.n.toNat, by have := hm.n; unfold Ev.u32B at this; omega⟩
  have HN := Lib.hid hn
  have HNU := Lib.hid (show n ≤ 4294967295 by have := hm.n; unfold Ev.u32B at this; omega)
  have HOK := Lib.hid hm
  have KC := Lib.hid (check_any m hm B)
  obtain ⟨r, hr⟩ : ∃ r, refE H.bs.length m = r := ⟨_, rfl⟩
  rw [hr]
  have HR := Lib.hid hr
  obtain ⟨my, hmy⟩ : ∃ x, may m = x := ⟨_, rfl⟩
  have HMY := Lib.hid hmy
  have KC2 := KC.out
  unfold chk at KC2
  rw [hmy] at KC2
  have KC3 := Lib.hid KC2
  clear hB hmb hb0 hr0 h hm hn hr hmy KC KC2
  cases my with
  | false =>
    have HR2 := Lib.hid (show r = 2 by rw [← HR.out]; unfold refE; rw [HMY.out]; rfl)
    go_enter Try.func59, Try.ntmps59
    go_wp2_with (first
      | (go_at_call 71; rw [← HB.out, ← HMB.out]; (with_reducible refine (isNone_any _ H0.out).mono ?_); rintro e1 w1 ⟨rfl, rfl⟩)
      | ((with_reducible show wpList _ _ _ (Oper.mk (some 9) _ _ _ _ _ :: _) _ _); refine wpList_load_row rfl 67 (.tmp 3) rfl mb rfl 67 _ (0, 0) _ R0.out Try.underlying67 rfl (by rw [HOK.out.size]; exact size_msg) ?_)
      | (go_at_call 85; (with_reducible refine KC3.out.mono ?_); rintro e1 w1 ⟨rfl, hb⟩; have B1 := Lib.hid hb; clear hb))
    go_ret
    exact ⟨by rw [HR2.out]; rfl, B0.out.trans (B1.out.mono B0.out.size)⟩
  | true =>
    by_cases ht : m.t = 4
    · have HR2 := Lib.hid (show r = if n * 16 < H.bs.length then 0 else 4 by rw [← HR.out]; unfold refE; rw [HMY.out, ht, HN.out]; rfl)
      have htb : (m.t != 4) = false := by simp [ht]
      obtain ⟨rr, hrr⟩ : ∃ rr : Int, (if n * 16 < H.bs.length then (0 : Int) else 4) = rr := ⟨_, rfl⟩
      have HRR := Lib.hid hrr
      clear ht hrr
      go_enter Try.func59, Try.ntmps59
      go_wp2_with (first
        | (go_at_call 71; rw [← HB.out, ← HMB.out]; (with_reducible refine (isNone_any _ H0.out).mono ?_); rintro e1 w1 ⟨rfl, rfl⟩)
        | ((with_reducible show wpList _ _ _ (Oper.mk (some 9) _ _ _ _ _ :: _) _ _); refine wpList_load_row rfl 67 (.tmp 3) rfl mb rfl 67 _ (0, 0) _ R0.out Try.underlying67 rfl (by rw [HOK.out.size]; exact size_msg) ?_)
        | (go_at_call 85; (with_reducible refine KC3.out.mono ?_); rintro e1 w1 ⟨rfl, hb⟩; have B1 := Lib.hid hb; have R1 := (B1.out.block _ (Array.getElem?_eq_some_iff.1 R0.out).1).trans R0.out; have m2 := (msg_cell R1).2.2.1; have m3 := (msg_cell R1).2.2.2; rw [HN.out] at m3; have H1 := Lib.hid (H0.out.kp B1.out); clear hb R1)
        | (go_at_call 75; (have KR := reach_any _ H1.out HNU.out); rw [HRR.out] at KR; (with_reducible refine KR.mono ?_); rintro e1 w2 ⟨rfl, hb⟩; have B2 := Lib.hid hb; clear hb))
      go_ret
      exact ⟨by rw [HR2.out, HRR.out]; rfl, (B0.out.trans (B1.out.mono B0.out.size)).trans (B2.out.mono (Nat.le_trans B0.out.size B1.out.size))⟩
    · have HR2 := Lib.hid (show r = 2 by rw [← HR.out]; unfold refE; rw [HMY.out, show (m.t == 4) = false by simp [ht]]; rfl)
      have htb : (m.t != 4) = true := by simp [ht]
      clear ht
      go_enter Try.func59, Try.ntmps59
      go_wp2_with (first
        | (go_at_call 71; rw [← HB.out, ← HMB.out]; (with_reducible refine (isNone_any _ H0.out).mono ?_); rintro e1 w1 ⟨rfl, rfl⟩)
        | ((with_reducible show wpList _ _ _ (Oper.mk (some 9) _ _ _ _ _ :: _) _ _); refine wpList_load_row rfl 67 (.tmp 3) rfl mb rfl 67 _ (0, 0) _ R0.out Try.underlying67 rfl (by rw [HOK.out.size]; exact size_msg) ?_)
        | (go_at_call 85; (with_reducible refine KC3.out.mono ?_); rintro e1 w1 ⟨rfl, hb⟩; have B1 := Lib.hid hb; have R1 := (B1.out.block _ (Array.getElem?_eq_some_iff.1 R0.out).1).trans R0.out; have m2 := (msg_cell R1).2.2.1; clear hb R1))
      go_ret
      exact ⟨by rw [HR2.out]; rfl, B0.out.trans (B1.out.mono B0.out.size)⟩
end
end Hm
end Go.Proofs.Ytfajkgbpeapcbaa
end

section
namespace Go.Proofs.Ytfajkgbpeapcbaa
open Go.RowKit
namespace Hm
open Nt
set_option maxRecDepth 100000
section
variable {w W1 W2 : World} {p : Nat} {d : Dt} {N : Nat} {H : Ho} {n tp e : Nat}
theorem EntAt.mono {w' W W' : World} (h : EntAt w' W d n e) (hs : w.heap.size ≤ w'.heap.size) (hb : Below W.heap.size W W') : EntAt w W' d n e := by
  rcases h with h | ⟨h1, h2, h3⟩
  · exact .inl h
  · exact .inr ⟨h1, Nat.le_trans hs h2, (hb.block _ (Array.getElem?_eq_some_iff.1 h3).1).trans h3⟩
theorem EntAt.row (h : Hd w p d N H) (hb : Below w.heap.size w W1) (he : EntAt w W1 d n e) : ∃ cs, W1.heap[e]? = some (.cells cs 84 (0, 0)) := by
  rcases he with he | ⟨_, _, he⟩
  · exact ⟨_, (h.kp hb).eb n e he⟩
  · exact ⟨_, he⟩
theorem types_ne {W : World} {a b : Nat} {cs cs' : Array Value} {t t' : TypeId} (h1 : W.heap[a]? = some (.cells cs t (0, 0))) (h2 : W.heap[b]? = some (.cells cs' t' (0, 0))) (ht : t ≠ t') : a ≠ b := by
  rintro rfl
  rw [h1] at h2
  injection h2 with h2
  injection h2 with _ h2 _
  exact ht h2
theorem Hd.side (h : Hd w p d N H) (hb : Below w.heap.size w W1) (he : EntAt w W1 d n e) (htp : w.heap.size ≤ tp) {S' Q' : Nat → Prop} {sa qa' : Option Addr} {sc qc' : Nat} {T' : Tg}
    (ht1 : ∃ cs, W1.heap[tp]? = some (.cells cs 125 (0, 0)))
    (tw : Tw W1 W2 tp e d.mp d.g (fun _ => False) (selQ d n) S' Q' sa sc qa' qc' T') {k : Nat} {cs : Array Value} {t : TypeId} (hk : W1.heap[k]? = some (.cells cs t (0, 0))) (h1 : t ≠ 125) (h2 : t ≠ 84) (h3 : t ≠ 5)
    (h4 : w.heap.size ≤ k ∨ k = p) : W2.heap[k]? = some (.cells cs t (0, 0)) := by
  obtain ⟨ce, hce⟩ := EntAt.row h hb he
  obtain ⟨ct, hct⟩ := ht1
  refine (tw.fr.block k (Array.getElem?_eq_some_iff.1 hk).1 ?_).trans hk
  rintro (h5 | h5 | h5 | h5 | h5)
  · exact types_ne hk hct h1 h5
  · exact types_ne hk hce h2 h5
  · have hg := (h.kp hb).im.row
    unfold Row at hg
    exact types_ne hk hg h3 h5
  · exact h5
  · have h6 : d.Qs n k := by
      unfold selQ at h5
      cases hq : d.ep n with
      | some e0 => rw [hq] at h5; exact h5
      | none => rw [hq] at h5; exact h5.elim
    rcases h4 with h4 | h4
    · have := h.ql n k h6; omega
    · exact (h.qn n k h6).1 h4
theorem Hd.midmap (h : Hd w p d N H) (hb : Below w.heap.size w W1) (he : EntAt w W1 d n e) (htp : w.heap.size ≤ tp) {S' Q' : Nat → Prop} {sa qa' : Option Addr} {sc qc' : Nat} {T' : Tg}
    (tw : Tw W1 W2 tp e d.mp d.g (fun _ => False) (selQ d n) S' Q' sa sc qa' qc' T') : MapE W2 d.mb N d.ep ∧ tp ≠ d.mb := by
  obtain ⟨ce, hce⟩ := EntAt.row h hb he
  obtain ⟨es, clock, hmo⟩ := (h.kp hb).ma.obj
  have hl := h.own_lt d.mb (.inr (.inr (.inl rfl)))
  refine ⟨(h.kp hb).ma.at_ (tw.fr.block d.mb (Array.getElem?_eq_some_iff.1 hmo).1 ?_), by omega⟩
  rintro (h5 | h5 | h5 | h5 | h5)
  · omega
  · exact cells_map hce (h5 ▸ hmo)
  · have hg := (h.kp hb).im.row
    unfold Row at hg
    exact cells_map hg (h5 ▸ hmo)
  · exact h5
  · have h6 : d.Qs n d.mb := by
      unfold selQ at h5
      cases hq : d.ep n with
      | some e0 => rw [hq] at h5; exact h5
      | none => rw [hq] at h5; exact h5.elim
    exact (h.qn n d.mb h6).2.2.1 rfl
def startT (H : Ho) (n : Nat) : Tg := ⟨n, [], H.ent n, H.bs⟩
def takeH (H : Ho) (m : E) : Ho := ⟨(takeP (startT H m.n.toNat) m).bs, upd H.ent m.n.toNat (takeP (startT H m.n.toNat) m).e⟩
def takeS (H : Ho) (m : E) : List E := (takeP (startT H m.n.toNat) m).sent
theorem ref_ok {len : Nat} {m : E} (h : refE len m = 0) : may m = true ∧ m.t = 4 ∧ m.n.toNat * 16 < len := by
  unfold refE at h
  split at h
  · rename_i h1
    simp only [Bool.and_eq_true, beq_iff_eq] at h1
    split at h
    · rename_i h2; exact ⟨h1.1, h1.2, h2⟩
    · cases h
  · cases h
theorem to_home {m : E} (h : may m = true) (ht : m.t = 4) : (m.k = 1 ∨ m.k = 2 ∨ m.k = 3 ∨ m.k = 11 ∨ m.k = 12 ∨ m.k = 13) ∧ 0 ≤ m.f ∧ m.f ≤ 3 := by
  unfold may at h
  rw [ht] at h
  simp only [Bool.and_eq_true] at h
  obtain ⟨_, _, h2⟩ := h
  cases hq : hm m.k with
  | false => rw [hq] at h2; simp [ca] at h2
  | true =>
    rw [hq] at h2
    simp [ca] at h2
    unfold hm at hq
    simp at hq
    refine ⟨?_, h2.1, h2.2⟩
    omega
theorem rq_of {m : E} (hok : Ok m) (hby : Im.Byt m.b) (h : may m = true) (ht : m.t = 4) : m.k ≠ 11 → m.k ≠ 12 → m.k ≠ 13 → Rq m := by
  obtain ⟨hk, h1, h2⟩ := to_home h ht
  intro a b c
  exact ⟨hok, hby, by rcases hk with h | h | h | h | h | h <;> first | exact .inl h | exact .inr (.inl h) | exact .inr (.inr h) | exact absurd h a | exact absurd h b | exact absurd h c, h1, h2⟩
theorem go_len (f : Nat) : ∀ T : Tg, Iv T.e → (goP f T).e.q.length ≤ T.e.q.length := by
  induction f with
  | zero => exact fun T h => Nat.le_refl _
  | succ f ih =>
    intro T h
    by_cases hb : T.e.b = true
    · rw [go_busy hb]; exact Nat.le_refl _
    · have hb : T.e.b = false := by simpa using hb
      cases hq : T.e.q with
      | nil => rw [go_nil hq, hq]; exact Nat.le_refl _
      | cons m l =>
        have hm := h.q m (by rw [hq]; exact List.mem_cons_self ..)
        have b1 := bgn_req h.pop hb hm
        have e2 : (popP T).e.q = l := by show T.e.q.tail = l; rw [hq]; rfl
        have g := ih (reqP (popP T) m) b1.iv
        have e3 : goP (f + 1) T = goP f (reqP (popP T) m) := by
          conv => lhs; unfold goP
          rw [hb, hq]; rfl
        rw [e3]
        have e4 : (reqP (popP T) m).e.q.length = l.length := by rw [b1.q, e2]
        simp only [List.length_cons]
        omega
theorem took_iv {T : Tg} {m : E} (h : Iv T.e) (hok : takeOk T m = true) (hf1 : 0 ≤ m.f) (hf2 : m.f ≤ 3) (hrq : m.k ≠ 11 → m.k ≠ 12 → m.k ≠ 13 → Rq m) : Iv (takeP T m).e ∧ (takeP T m).e.q.length ≤ T.e.q.length + 1 := by
  unfold takeP
  unfold takeOk at hok
  split
  · rename_i hk
    rw [if_pos hk] at hok
    have e1 : (keepP T m).e = T.e := by simp only [keepP]
    unfold backP
    obtain ⟨T1, hT1⟩ : ∃ T1, keepP T m = T1 := ⟨_, rfl⟩
    rw [hT1] at e1 ⊢
    have h1 : Iv T1.e := e1 ▸ h
    rw [← e1]
    show Iv (if T1.e.k = 2 then giveP T1 10 else tellP (shareP (shareP (noOwn T1) m.f.toNat true) T1.e.a.toNat true) 8 : Tg).e ∧ (if T1.e.k = 2 then giveP T1 10 else tellP (shareP (shareP (noOwn T1) m.f.toNat true) T1.e.a.toNat true) 8 : Tg).e.q.length ≤ T1.e.q.length + 1
    split
    · exact ⟨⟨by show -1 ≤ T1.e.a; have := h1.a1; omega, h1.a2, h1.a1, h1.a2, by show (0 : Int) ≤ 0; omega, by show (0 : Int) ≤ 10; omega, fun _ => rfl, h1.k, h1.q⟩, by show T1.e.q.length ≤ _; omega⟩
    · exact ⟨⟨by show (-1 : Int) ≤ -1; omega, by show (-1 : Int) ≤ 3; omega, h1.a1, h1.a2, by show (0 : Int) ≤ 0; omega, by show (0 : Int) ≤ 10; omega, fun _ => rfl, h1.k, h1.q⟩, by show T1.e.q.length ≤ _; omega⟩
  · split
    · rename_i hk1 hk
      rw [if_neg hk1, if_pos hk] at hok
      unfold ackOk at hok
      simp only [Bool.and_eq_true, decide_eq_true_eq] at hok
      have hw := hok.1.1.1
      unfold ackP gidP
      split
      · exact ⟨⟨by show -1 ≤ T.e.a; have := h.a1; omega, h.a2, h.a1, h.a2, by show (0 : Int) ≤ 0; omega, by show (0 : Int) ≤ 10; omega, fun _ => rfl, h.k, h.q⟩, by show T.e.q.length ≤ _; omega⟩
      · refine ⟨⟨h.o1, h.o2, h.a1, h.a2, by show 0 ≤ T.e.wt - 1; omega, by show T.e.wt - 1 ≤ 10; have := h.w2; omega, fun e => ?_, h.k, h.q⟩, by show T.e.q.length ≤ _; omega⟩
        have := h.w0 e
        omega
    · split
      · have hi : Iv (clearP T).e := ⟨h.o1, h.o2, by show (0 : Int) ≤ 0; omega, by show (0 : Int) ≤ 3; omega, by show (0 : Int) ≤ 0; omega, by show (0 : Int) ≤ 10; omega, fun _ => rfl, by show Ev.i64B 0; unfold Ev.i64B; omega, h.q⟩
        have g := gone_go T.e.q.length (clearP T) hi
        refine ⟨g.iv, ?_⟩
        exact Nat.le_trans (go_len _ _ hi) (by show T.e.q.length ≤ _; omega)
      · rename_i h1 h2 h3
        have hm := hrq h1 h2 h3
        have hi : Iv (pushP T m).e := ⟨h.o1, h.o2, h.a1, h.a2, h.w1, h.w2, h.w0, h.k, fun x hx => by
          have hx : x ∈ T.e.q ++ [m] := hx
          rcases List.mem_append.1 hx with hx | hx
          · exact h.q x hx
          · obtain rfl : x = m := by simpa using hx
            exact hm⟩
        have g := gone_go (T.e.q.length + 1) (pushP T m) hi
        exact ⟨g.iv, Nat.le_trans (go_len _ _ hi) (by show (T.e.q ++ [m]).length ≤ _; simp)⟩
end
end Hm
end Go.Proofs.Ytfajkgbpeapcbaa
end
