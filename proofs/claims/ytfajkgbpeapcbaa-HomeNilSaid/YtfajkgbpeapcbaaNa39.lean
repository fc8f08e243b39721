import Derived.Test.YtfajkgbpeapcbaaNa38
import Derived.ProofKit
import Derived.OpenShut
import Derived.Lib.SmallJoins
import Derived.Carry
import Derived.Deep.Slices
set_option linter.unusedVariables false
set_option linter.unusedSimpArgs false

section
namespace Go.Proofs.Ytfajkgbpeapcbaa
open Go.RowKit
namespace Hm
open Nt
set_option maxRecDepth 100000
section
variable {p : Nat} {d : Dt} {N : Nat} {H : Ho}
set_option maxHeartbeats 8000000 in
theorem Take_err (hv : Value) (r : Int) (hr : r ≠ 0) (w : World) (m : E) (hm : Ok m) (hk : ∀ B, Below w.heap.size w B → Calls Try.prog 59 #[hv, .agg (cells m).toArray] B fun e w' => e = .returned (.int .i64 r) ∧ Below B.heap.size B w') : Calls Try.prog 26 #[hv, .agg (cells m).toArray] w fun e w' => e = .returned (.tuple #[.slice none 0 0, .int .i64 r]) ∧ Below w.heap.size w w' := by
  obtain ⟨mb, B0w, hmb, hB0, hb0, hr0⟩ := msg_box w m
  obtain ⟨B1w, hB1⟩ : ∃ x, x = B0w.alloc (.cells #[.slice none 0 0] 56) := ⟨_, rfl⟩
  obtain ⟨B, hB⟩ : ∃ x, x = B1w.alloc (.cells #[.int .i64 0] 47) := ⟨_, rfl⟩
  obtain ⟨rb, hrb⟩ : ∃ x, x = B0w.heap.size := ⟨_, rfl⟩
  obtain ⟨eb, heb⟩ : ∃ x, x = B1w.heap.size := ⟨_, rfl⟩
  have hs0 : B0w.heap.size = w.heap.size + 1 := by rw [hB0]; simp
  have hs1 : B1w.heap.size = B0w.heap.size + 1 := by rw [hB1]; simp
  have hs2 : B.heap.size = B1w.heap.size + 1 := by rw [hB]; simp
  have b01 : Below B0w.heap.size B0w B1w := by rw [hB1]; exact (Below.refl _ _).alloc (Nat.le_refl _) _
  have b12 : Below B1w.heap.size B1w B := by rw [hB]; exact (Below.refl _ _).alloc (Nat.le_refl _) _
  have b1 := b01.trans (b12.mono b01.size)
  have B0 := Lib.hid (show Below w.heap.size w B from hb0.trans (b1.mono hb0.size))
  have R0 := Lib.hid ((b1.block _ (Array.getElem?_eq_some_iff.1 hr0).1).trans hr0)
  have RB := Lib.hid (show B.heap[rb]? = some (.cells #[.slice none 0 0] 56 (0, 0)) by rw [b12.block rb (by omega), hB1, hrb]; exact heap_alloc_new _ _)
  have EB := Lib.hid (show B.heap[eb]? = some (.cells #[.int .i64 0] 47 (0, 0)) by rw [hB, heb]; exact heap_alloc_new _ _)
  have HMB := Lib.hid (show mb = w.heap.size from hmb); have HRB := Lib.hid (show rb = w.heap.size + 1 by omega); have HEB := Lib.hid (show eb = w.heap.size + 1 + 1 by omega)
  have HB := Lib.hid (show B = ((w.alloc (.cells (cells m).toArray 67)).alloc (.cells #[.slice none 0 0] 56)).alloc (.cells #[.int .i64 0] 47) by rw [hB, hB1, hB0])
  have HBS := Lib.hid (show B.heap.size = w.heap.size + 3 by omega)
  have HNE := Lib.hid (show eb ≠ rb by omega)
  have HOK := Lib.hid hm
  have hmf : ∀ (fn : Fn) (first cap : Array Value) (w : World), (Instr.makeFunc fn first cap).run Try.prog w = .ok (.func fn first cap) w := fun _ _ _ _ => rfl
  clear hB hB1 hB0 hrb heb hs0 hs1 hs2 b01 b12 b1 hmb hb0 hr0 hm
  have KR := Lib.hid (hk B B0.out)
  have hrb : (r != 0) = true := by simp [hr]
  clear hr hk
  go_enter_defers Try.func26, Try.ntmps26
  go_wp2_with (first
    | ((with_reducible show wpList _ _ _ (Oper.mk (some 9) _ _ _ _ _ :: _) _ _); rw [← HB.out, ← HEB.out, ← HRB.out, ← HMB.out]; refine wpList_load_row rfl 67 (.tmp 3) rfl mb rfl 67 _ (0, 0) _ R0.out Try.underlying67 rfl (by rw [HOK.out.size]; exact size_msg) ?_)
    | (go_at_call 59; (with_reducible refine KR.out.mono ?_); rintro e1 w1 ⟨rfl, hb⟩; have B1 := Lib.hid hb; have RB1 := Lib.hid ((hb.block _ (Array.getElem?_eq_some_iff.1 RB.out).1).trans RB.out); have EB1 := Lib.hid ((hb.block _ (Array.getElem?_eq_some_iff.1 EB.out).1).trans EB.out); clear hb)
    | ((with_reducible show wpList _ _ _ (Oper.mk none (Op.store 56 _ _) _ _ _ _ :: _) _ _); refine wpList_put rfl 56 (.tmp 4) (.const (.slice none 0 0)) rfl rb 0 (.slice none 0 0) rfl rfl 56 _ RB1.out (by kernel_rfl) (Nat.le_of_ble_eq_true rfl) (one_slice _ _ _) #[.slice none 0 0] rfl ?_)
    | ((with_reducible show wpList _ _ _ (Oper.mk none (Op.store 47 _ _) _ _ _ _ :: _) _ _); refine wpList_put rfl 47 (.tmp 5) (.tmp 13) rfl eb 0 (.int .i64 r) rfl rfl 47 _ ((setRow_other _ _ _ _ HNE.out).trans EB1.out) (by kernel_rfl) (Nat.le_of_ble_eq_true rfl) (one_int _ _) #[.int .i64 r] rfl ?_))
  have H2 := two_of (.slice none 0 0) (.int .i64 r) RB1.out EB1.out
  have hb9 := B0.out.trans (B1.out.mono B0.out.size)
  have h1 := HRB.out; have h2 := HEB.out
  exact ⟨_, res_two rfl rfl H2.r H2.e, rfl, H2.below hb9 (by omega) (by omega)⟩
theorem Take_nil (w : World) (m : E) (hm : Ok m) : Calls Try.prog 26 #[.pointer none, .agg (cells m).toArray] w fun e w' => e = .returned (.tuple #[.slice none 0 0, .int .i64 1]) ∧ Below w.heap.size w w' :=
  Take_err _ 1 (by decide) w m hm fun B _ => refusal_nil m hm B
theorem Take_empty (w : World) (m : E) (hm : Ok m) {z : Nat} (hz : w.heap[z]? = some (.cells #[.pointer none, .map none] 92 (0, 0))) : Calls Try.prog 26 #[.pointer (some ⟨z, 0, none⟩), .agg (cells m).toArray] w fun e w' => e = .returned (.tuple #[.slice none 0 0, .int .i64 1]) ∧ Below w.heap.size w w' :=
  Take_err _ 1 (by decide) w m hm fun B hb => refusal_empty m hm B ((hb.block _ (Array.getElem?_eq_some_iff.1 hz).1).trans hz)
def mk : E := ⟨1, 2, 4, 1, z16⟩
theorem mk_ok : Ok mk := ⟨by show Ev.i64B 1; unfold Ev.i64B; omega, by show Ev.i64B 2; unfold Ev.i64B; omega, by show Ev.i64B 4; unfold Ev.i64B; omega, by show Ev.u32B 1; unfold Ev.u32B; omega, rfl⟩
def Hz : Ho := ⟨List.replicate 32 0, fun _ => fresh⟩
theorem mk_byt : Im.Byt mk.b := by
  intro x hx
  have : x = 0 := by simpa [mk, z16] using hx
  omega
theorem mk_ref : refE Hz.bs.length mk = 0 := by decide +kernel
theorem mk_take : takeOk (startT Hz mk.n.toNat) mk = true := by decide +kernel
theorem mk_sent : takeS Hz mk = [⟨9, 4, 2, 1, Im.win Hz.bs (1 * 16) 16⟩] := by kernel_rfl
theorem mk_bs : (takeH Hz mk).bs = Hz.bs := by kernel_rfl
theorem img32 : Im.okB 32 = true := by decide +kernel
set_option maxHeartbeats 8000000 in
theorem known_any (w : World) : Calls Try.prog 25 #[] w fun e w' => e = .returned (.bool true) ∧ Below w.heap.size w w' := by
  go_enter Try.func25, Try.ntmps25
  go_wp2_with (first
    | (go_at_call 38; (refine (new_yes 32 img32 _).mono ?_); rintro e1 w1 ⟨q, r, rfl, him, h1, h2, hb⟩; have B1 := Lib.hid hb; have IM := Lib.hid him; clear hb him h1 h2)
    | (go_at_call 37; (with_reducible refine (New_any _ IM.out).mono ?_); rintro e2 w2 ⟨p, d, rfl, hd, ho, hb⟩; have B2 := Lib.hid hb; have HD := Lib.hid (show Hd w2 p d 0 Hz from hd); have HO := Lib.hid ho; clear hb hd ho; refine Stop.out ?_))
  refine ⟨?_⟩
  have KT := Lib.hid (Take_ok w2 HD.out mk mk_ok mk_byt mk_ref (by decide) mk_take)
  rw [mk_sent] at KT
  have KT2 := Lib.hid (show Calls Try.prog 26 #[.pointer (some ⟨p, 0, none⟩), .agg #[.int .i64 1, .int .i64 2, .int .i64 4, .int .u32 1, .int .u8 0, .int .u8 0, .int .u8 0, .int .u8 0, .int .u8 0, .int .u8 0, .int .u8 0, .int .u8 0, .int .u8 0, .int .u8 0, .int .u8 0, .int .u8 0, .int .u8 0, .int .u8 0, .int .u8 0, .int .u8 0]] w2 _ from KT.out)
  go_wp2_with (go_at_call 26; go_loud (with_reducible refine KT2.out.mono ?_); rintro e3 w3 ⟨d', sa, sc, S, rfl, hd, hfr, hon, hso, hsn, hok⟩; refine Stop.out ?_)
  refine ⟨?_⟩
  have HD3 := Lib.hid hd; have HF := Lib.hid hfr
  have hls := hso.ls hok
  obtain ⟨g, o, rfl, hcl⟩ := hls.at_ (k := 0) (e := ⟨9, 4, 2, 1, Im.win Hz.bs (1 * 16) 16⟩) rfl
  have k0 : w3.cell? ⟨g, o, none⟩ = some (.int .i64 9) := by have := hcl 0 _ rfl; simpa using this
  have k2 : w3.cell? ⟨g, o + 2, none⟩ = some (.int .i64 2) := by have := hcl 2 _ rfl; simpa using this
  have KL0 := Lines_any w3 HD3.out
  rw [mk_bs] at KL0
  have KL := Lib.hid (show Calls Try.prog 31 #[.pointer (some ⟨p, 0, none⟩)] w3 fun e w' => e = .returned (.int .i64 2) ∧ w3 = w' from KL0)
  clear hd hfr hon hso hsn hok hls hcl KL0
  go_wp2_with (go_at_call 31; (with_reducible refine KL.out.mono ?_); rintro e4 w4 ⟨rfl, rfl⟩)
  go_ret
  refine ⟨rfl, ?_⟩
  have hb2 := B1.out.trans (B2.out.mono B1.out.size)
  exact Fr.below hb2 HF.out (fun k hk => Nat.le_trans B1.out.size (HO.out k hk)) (Nat.le_refl _)
end
end Hm
end Go.Proofs.Ytfajkgbpeapcbaa
end

section
namespace Go.Proofs.Ytfajkgbpeapcbaa
open Go.Joins Go.ChangeShapes Go.WideShapes Go.ChangeAt Go.RowKit Go.Deep
set_option maxRecDepth 100000
theorem own : ownKnob Try.prog.godebug = none := by kernel_rfl
theorem laidOut : laidOutB Try.prog = true := by kernel_rfl
theorem int_in {H : Type} {enc : TypeId × Value → H} {P : Program} {W : World} {base : Nat} {sp : Nat → Bool} {held : Bool} {fuel : Nat} {t : TypeId} {q : IntKind} {c : Value} {y : DataW H × List MemPlace} (ht : P.underlying t = some (.int q))
    (h : DataW.trod enc P W base sp held fuel t [c] = some y) : ∃ n, c = .int q n ∧ (Lit.int q n).wf = true := by
  obtain ⟨n, hn, _, hw⟩ := DataW.trod_int ht h
  exact ⟨n, by simpa using hn, hw⟩
theorem i64_of_wf {n : Int} (h : (Lit.int .i64 n).wf = true) : Ev.i64B n := by
  unfold Ev.i64B
  have h1 : IntKind.i64.min = -9223372036854775808 := by decide
  have h2 : IntKind.i64.max = 9223372036854775807 := by decide
  simp only [Lit.wf, h1, h2, Bool.and_eq_true, decide_eq_true_eq] at h; omega
theorem u32_of_wf {n : Int} (h : (Lit.int .u32 n).wf = true) : Ev.u32B n := by
  unfold Ev.u32B
  have h1 : IntKind.u32.min = 0 := by decide
  have h2 : IntKind.u32.max = 4294967295 := by decide
  simp only [Lit.wf, h1, h2, Bool.and_eq_true, decide_eq_true_eq] at h; omega
section
variable {H : Type} {enc : TypeId × Value → H} {W : World}
theorem bytes_in {fuel : Nat} {cs : List Value} {y : DataW H × List MemPlace} (h : DataW.trod enc Try.prog W 0 (fun _ => true) true fuel 25 cs = some y) : ∃ b : List Int, cs = b.map (Value.int .u8) ∧ b.length = 16 := by
  obtain ⟨xs, m, _, _, hl, hxl, hx⟩ := DataW.trod_array Try.underlying25 h
  have u1 : Try.prog.cellsOf 5 = 1 := by kernel_rfl
  have u2 : Try.prog.cellsOf 25 = 16 := by kernel_rfl
  rw [u1] at hx
  have hcl : cs.length = 16 := by first | exact hl.trans u2 | (rw [u2] at hl; exact hl) | simpa [u1] using hl
  have each : ∀ i, i < 16 → ∃ n : Int, cs[i]? = some (.int .u8 n) := fun i hi => by
    have h1 := hx i hi
    have h2 : (cs.drop (i * 1)).take 1 = [cs[i]'(by omega)] := by
      rw [Nat.mul_one, List.drop_eq_getElem_cons (by omega)]; rfl
    rw [h2, List.getElem?_eq_getElem (by omega)] at h1
    obtain ⟨n, hn, _⟩ := int_in Try.underlying5 h1
    exact ⟨n, by rw [List.getElem?_eq_getElem (by omega), hn]⟩
  refine ⟨(List.range 16).map (fun i => intOf (cs[i]?.getD undef)), ?_, by simp⟩
  apply List.ext_getElem?
  intro i
  by_cases hi : i < 16
  · obtain ⟨n, hn⟩ := each i hi
    rw [hn, List.map_map, List.getElem?_map, List.getElem?_range hi]
    simp [hn, intOf]
  · rw [List.getElem?_eq_none (by omega), List.getElem?_eq_none (by simp; omega)]
theorem cellsMsg : Try.prog.cellsOf 67 = 20 := by kernel_rfl
theorem msg_in {fuel : Nat} {cs : List Value} {y : DataW H × List MemPlace} (h : DataW.trod enc Try.prog W 0 (fun _ => true) true fuel 67 cs = some y) : ∃ e : Nt.E, cs = Nt.cells e ∧ Nt.Ok e := by
  obtain ⟨xs, n, _, _, hl, hlen, hg⟩ := DataW.trod_struct Try.underlying67 h
  have u0 : Try.prog.cellsOf 65 = 1 := by kernel_rfl
  have u1 : Try.prog.cellsOf 23 = 1 := by kernel_rfl
  have u2 : Try.prog.cellsOf 3 = 1 := by kernel_rfl
  have u3 : Try.prog.cellsOf 25 = 16 := by kernel_rfl
  rw [cellsMsg] at hl
  match xs, hlen, cs, hl with
  | [y0, y1, y2, y3, y4], _, c0 :: c1 :: c2 :: c3 :: r, hr =>
    have hrl : r.length = 16 := by simpa using hr
    have g0 : DataW.trod enc Try.prog W 0 (fun _ => true) true n 65 [c0] = some y0 := by simpa [u0, u1, u2, u3] using hg 0 _ rfl
    have g1 : DataW.trod enc Try.prog W 0 (fun _ => true) true n 3 [c1] = some y1 := by simpa [u0, u1, u2, u3] using hg 1 _ rfl
    have g2 : DataW.trod enc Try.prog W 0 (fun _ => true) true n 3 [c2] = some y2 := by simpa [u0, u1, u2, u3] using hg 2 _ rfl
    have g3 : DataW.trod enc Try.prog W 0 (fun _ => true) true n 23 [c3] = some y3 := by simpa [u0, u1, u2, u3] using hg 3 _ rfl
    have g4 : DataW.trod enc Try.prog W 0 (fun _ => true) true n 25 r = some y4 := by simpa [u0, u1, u2, u3, List.take_of_length_le, hrl] using hg 4 _ rfl
    obtain ⟨a0, rfl, w0⟩ := int_in Try.underlying65 g0
    obtain ⟨a1, rfl, w1⟩ := int_in Try.underlying3 g1
    obtain ⟨a2, rfl, w2⟩ := int_in Try.underlying3 g2
    obtain ⟨a3, rfl, w3⟩ := int_in Try.underlying23 g3
    obtain ⟨b, rfl, hb⟩ := bytes_in g4
    exact ⟨⟨a0, a1, a2, a3, b⟩, rfl, ⟨i64_of_wf w0, i64_of_wf w1, i64_of_wf w2, u32_of_wf w3, hb⟩⟩
namespace Nt
structure Act where
  k : Int
  e : E
  p : Int
def acells (x : Act) : List Value := .int .i64 x.k :: (cells x.e ++ [.int .i64 x.p])
structure AOk (x : Act) : Prop where
  k : Ev.i64B x.k
  e : Ok x.e
  p : Ev.i64B x.p
theorem AOk.len {x : Act} (h : AOk x) : (acells x).length = 22 := by unfold acells; rw [List.length_cons, List.length_append, h.e.len]; rfl
structure AsIn (w : World) (a : Option Addr) (c : Nat) (l : List Act) : Prop where
  rows : Ev.RowsIn w a 22 (l.map acells)
  ok : ∀ x ∈ l, AOk x
  le : l.length ≤ c
  max : c ≤ 9223372036854775807
structure PsIn (w : World) (a : Option Addr) (c : Nat) (l : List Int) : Prop where
  rows : Ev.RowsIn w a 1 (l.map fun n => [Value.int .i64 n])
  ok : ∀ x ∈ l, Ev.i64B x
  le : l.length ≤ c
  max : c ≤ 9223372036854775807
theorem AsIn.kp {w w' : World} {a c l} (h : AsIn w a c l) (k : Ev.Kp w w') : AsIn w' a c l := ⟨h.rows.kp k, h.ok, h.le, h.max⟩
theorem AsIn.at_ {w : World} {a c} {l : List Act} (h : AsIn w a c l) {k : Nat} {x : Act} (hk : l[k]? = some x) :
    ∃ g o, a = some ⟨g, o, none⟩ ∧ (∀ i c, (acells x)[i]? = some c → w.cell? ⟨g, o + k * 22 + i, none⟩ = some c) := by
  have hl := (List.getElem?_eq_some_iff.1 hk).1
  obtain ⟨g, o, e1, hc⟩ := h.rows (by simp; omega)
  exact ⟨g, o, e1, fun i c hi => hc k (acells x) (by rw [List.getElem?_map, hk]; rfl) i c hi⟩
theorem PsIn.kp {w w' : World} {a c l} (h : PsIn w a c l) (k : Ev.Kp w w') : PsIn w' a c l := ⟨h.rows.kp k, h.ok, h.le, h.max⟩
theorem PsIn.at_ {w : World} {a c} {l : List Int} (h : PsIn w a c l) {k : Nat} {x : Int} (hk : l[k]? = some x) : ∃ g o, a = some ⟨g, o, none⟩ ∧ w.cell? ⟨g, o + k, none⟩ = some (.int .i64 x) := by
  have hl := (List.getElem?_eq_some_iff.1 hk).1
  obtain ⟨g, o, e1, hc⟩ := h.rows (by simp; omega)
  have := hc k [Value.int .i64 x] (by rw [List.getElem?_map, hk]; rfl) 0 _ rfl
  rw [Nat.mul_one, Nat.add_zero] at this
  exact ⟨g, o, e1, this⟩
end Nt
theorem open_msg {r : Reach} {b0 : Nat} {v : Value} {d : DataW H} {p : List MemPlace} (hv : Value.okWide Try.prog W r b0 67 v) (h : DataW.Trod enc Try.prog W 0 (fun _ => true) true 67 v d p) :
    ∃ x : Nt.E, v = Nt.EV x ∧ Nt.Ok x := by
  obtain ⟨cs, rfl, hsz⟩ := okWide_struct Try.underlying67 hv
  obtain ⟨fuel, hf⟩ := h
  obtain ⟨x, hx, hok⟩ := msg_in (cs := cs.toList) (by simpa [Value.cells] using hf)
  exact ⟨x, by unfold Nt.EV; rw [← hx], hok⟩
end
end Go.Proofs.Ytfajkgbpeapcbaa
end
