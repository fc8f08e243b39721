/-
  The contracts of the document's own answers for layer 2: which size, what is refused, what is read and written; and the conditions under which an access is refused or goes.
-/
import Derived.Test.YtchjcfmmnfimlaaImBytes
namespace Go.Proofs.Ytchjcfmmnfimlaa
open Go.RowKit Go.Maps
set_option linter.unusedVariables false

set_option maxHeartbeats 2000000 in
theorem rsize_any (n : Int) (h : -9223372036854775808 ≤ n ∧ n ≤ 9223372036854775807) (w : World) :
    Calls Try.prog 15 #[.int .i64 n] w fun e w' => e = .returned (.bool (Im.okB n)) ∧ w = w' := by
  by_cases hn : Im.okB n = true
  · rw [hn]
    rcases Im.okB_iff.1 hn with rfl | rfl | rfl | rfl | rfl | rfl | rfl | rfl | rfl
    · go_enter Try.func15, Try.ntmps15
      go_wp2
      refine wp_loop_rounds 1 ?_
      rw [rounds_succ]
      go_wp2
      go_ret
      exact ⟨rfl, rfl⟩
    · go_enter Try.func15, Try.ntmps15
      go_wp2
      refine wp_loop_rounds 2 ?_
      rw [rounds_succ]
      go_wp2
      rw [rounds_succ]
      go_wp2
      go_ret
      exact ⟨rfl, rfl⟩
    · go_enter Try.func15, Try.ntmps15
      go_wp2
      refine wp_loop_rounds 3 ?_
      rw [rounds_succ]
      go_wp2
      rw [rounds_succ]
      go_wp2
      rw [rounds_succ]
      go_wp2
      go_ret
      exact ⟨rfl, rfl⟩
    · go_enter Try.func15, Try.ntmps15
      go_wp2
      refine wp_loop_rounds 4 ?_
      rw [rounds_succ]
      go_wp2
      rw [rounds_succ]
      go_wp2
      rw [rounds_succ]
      go_wp2
      rw [rounds_succ]
      go_wp2
      go_ret
      exact ⟨rfl, rfl⟩
    · go_enter Try.func15, Try.ntmps15
      go_wp2
      refine wp_loop_rounds 5 ?_
      rw [rounds_succ]
      go_wp2
      rw [rounds_succ]
      go_wp2
      rw [rounds_succ]
      go_wp2
      rw [rounds_succ]
      go_wp2
      rw [rounds_succ]
      go_wp2
      go_ret
      exact ⟨rfl, rfl⟩
    · go_enter Try.func15, Try.ntmps15
      go_wp2
      refine wp_loop_rounds 6 ?_
      rw [rounds_succ]
      go_wp2
      rw [rounds_succ]
      go_wp2
      rw [rounds_succ]
      go_wp2
      rw [rounds_succ]
      go_wp2
      rw [rounds_succ]
      go_wp2
      rw [rounds_succ]
      go_wp2
      go_ret
      exact ⟨rfl, rfl⟩
    · go_enter Try.func15, Try.ntmps15
      go_wp2
      refine wp_loop_rounds 7 ?_
      rw [rounds_succ]
      go_wp2
      rw [rounds_succ]
      go_wp2
      rw [rounds_succ]
      go_wp2
      rw [rounds_succ]
      go_wp2
      rw [rounds_succ]
      go_wp2
      rw [rounds_succ]
      go_wp2
      rw [rounds_succ]
      go_wp2
      go_ret
      exact ⟨rfl, rfl⟩
    · go_enter Try.func15, Try.ntmps15
      go_wp2
      refine wp_loop_rounds 8 ?_
      rw [rounds_succ]
      go_wp2
      rw [rounds_succ]
      go_wp2
      rw [rounds_succ]
      go_wp2
      rw [rounds_succ]
      go_wp2
      rw [rounds_succ]
      go_wp2
      rw [rounds_succ]
      go_wp2
      rw [rounds_succ]
      go_wp2
      rw [rounds_succ]
      go_wp2
      go_ret
      exact ⟨rfl, rfl⟩
    · go_enter Try.func15, Try.ntmps15
      go_wp2
      refine wp_loop_rounds 9 ?_
      rw [rounds_succ]
      go_wp2
      rw [rounds_succ]
      go_wp2
      rw [rounds_succ]
      go_wp2
      rw [rounds_succ]
      go_wp2
      rw [rounds_succ]
      go_wp2
      rw [rounds_succ]
      go_wp2
      rw [rounds_succ]
      go_wp2
      rw [rounds_succ]
      go_wp2
      rw [rounds_succ]
      go_wp2
      go_ret
      exact ⟨rfl, rfl⟩
  · have hf : Im.okB n = false := by simpa using hn
    rw [hf]
    rw [Im.okB_iff] at hn
    have h16 : ((16 : Int) == n) = false := by rw [beq_eq_false_iff_ne]; omega
    have h32 : ((32 : Int) == n) = false := by rw [beq_eq_false_iff_ne]; omega
    have h64 : ((64 : Int) == n) = false := by rw [beq_eq_false_iff_ne]; omega
    have h128 : ((128 : Int) == n) = false := by rw [beq_eq_false_iff_ne]; omega
    have h256 : ((256 : Int) == n) = false := by rw [beq_eq_false_iff_ne]; omega
    have h512 : ((512 : Int) == n) = false := by rw [beq_eq_false_iff_ne]; omega
    have h1024 : ((1024 : Int) == n) = false := by rw [beq_eq_false_iff_ne]; omega
    have h2048 : ((2048 : Int) == n) = false := by rw [beq_eq_false_iff_ne]; omega
    have h4096 : ((4096 : Int) == n) = false := by rw [beq_eq_false_iff_ne]; omega
    clear hn hf
    go_enter Try.func15, Try.ntmps15
    go_wp2
    refine wp_loop_rounds 10 ?_
    rw [rounds_succ]
    go_wp2
    rw [rounds_succ]
    go_wp2
    rw [rounds_succ]
    go_wp2
    rw [rounds_succ]
    go_wp2
    rw [rounds_succ]
    go_wp2
    rw [rounds_succ]
    go_wp2
    rw [rounds_succ]
    go_wp2
    rw [rounds_succ]
    go_wp2
    rw [rounds_succ]
    go_wp2
    rw [rounds_succ]
    go_wp2
    go_ret
    exact ⟨rfl, rfl⟩

/-- the access is refused so -/
def Refuses (len addr : Nat) (width c : Int) : Prop :=
  (c = 2 ∧ ¬ (width = 1 ∨ width = 2 ∨ width = 4)) ∨
  (∃ n : Nat, width = n ∧ (n = 1 ∨ n = 2 ∨ n = 4) ∧ ((c = 120 ∧ ¬ addr % n = 0) ∨ (c = 4 ∧ addr % n = 0 ∧ len ≤ addr)))
/-- the access goes -/
def Goes (len addr n : Nat) : Prop := (n = 1 ∨ n = 2 ∨ n = 4) ∧ addr % n = 0 ∧ addr < len
theorem refuses_or (len addr : Nat) (width : Int) : (∃ c, Refuses len addr width c ∧ (c = 2 ∨ c = 120 ∨ c = 4)) ∨ (∃ n : Nat, width = n ∧ Goes len addr n) := by
  by_cases h : width = 1 ∨ width = 2 ∨ width = 4
  · obtain ⟨n, rfl, hn⟩ : ∃ n : Nat, width = n ∧ (n = 1 ∨ n = 2 ∨ n = 4) := by
      rcases h with rfl | rfl | rfl
      · exact ⟨1, rfl, by omega⟩
      · exact ⟨2, rfl, by omega⟩
      · exact ⟨4, rfl, by omega⟩
    by_cases ha : addr % n = 0
    · by_cases hl : addr < len
      · exact .inr ⟨n, rfl, hn, ha, hl⟩
      · exact .inl ⟨4, .inr ⟨n, rfl, hn, .inr ⟨rfl, ha, by omega⟩⟩, by omega⟩
    · exact .inl ⟨120, .inr ⟨n, rfl, hn, .inl ⟨rfl, ha⟩⟩, by omega⟩
  · exact .inl ⟨2, .inl ⟨rfl, h⟩, by omega⟩

theorem reach_no {w : World} {p g : Nat} {bs : List Int} (hi : Img w p g bs) {addr : Nat} {width c : Int} (ha : addr ≤ 4294967295) (hc : Refuses bs.length addr width c) (F : Value) :
    Calls Try.prog 34 #[.pointer (some ⟨p, 0, none⟩), .int .u64 addr, .int .i64 (bitsOf width), F] w fun e w' => e = .returned (.int .i64 c) ∧ w = w' := by
  have hbd := hi.bd
  rcases hc with ⟨rfl, h⟩ | ⟨n, rfl, hn, ⟨rfl, h⟩ | ⟨rfl, h, hl⟩⟩
  · have e : bitsOf width = 0 := by unfold bitsOf; rw [if_neg (by omega), if_neg (by omega), if_neg (by omega)]
    rw [e]
    exact reach_arg p g bs.length addr F (by omega) w ⟨hbd.1, hbd.2.1⟩ hi.cell
  · exact reach_align p g bs.length addr n _ F (by omega) (by rcases hn with rfl | rfl | rfl <;> decide) h w ⟨hbd.1, hbd.2.1⟩ hi.cell
  · exact reach_range p g bs.length addr n _ F (by omega) (by rcases hn with rfl | rfl | rfl <;> decide) h hl w ⟨hbd.1, hbd.2.1⟩ hi.cell
theorem read_no (p g : Nat) (bs : List Int) (addr : Nat) (width c : Int) (w : World) (hi : Img w p g bs) (ha : addr ≤ 4294967295) (hw : (Lit.int .i64 width).wf = true) (hc : Refuses bs.length addr width c) :
    Calls Try.prog 20 #[.pointer (some ⟨p, 0, none⟩), .int .u32 addr, .int .i64 width] w fun e w' => e = .returned (.tuple #[.int .u32 0, .int .i64 c]) ∧ Below w.heap.size w w' :=
  read_refused _ addr width c w ha hw (fun F w1 hb => reach_no (hi.old hb) ha hc F)
theorem write_no (p g : Nat) (bs : List Int) (addr : Nat) (width v c : Int) (w : World) (hi : Img w p g bs) (ha : addr ≤ 4294967295) (hw : (Lit.int .i64 width).wf = true) (hc : Refuses bs.length addr width c) :
    Calls Try.prog 21 #[.pointer (some ⟨p, 0, none⟩), .int .u32 addr, .int .i64 width, .int .u32 v] w fun e w' => e = .returned (.int .i64 c) ∧ Below w.heap.size w w' :=
  write_refused _ addr width v c w ha hw (fun F w1 hb => reach_no (hi.old hb) ha hc F)
theorem bits_bd (width : Int) : 0 ≤ bitsOf width ∧ bitsOf width ≤ 128 := by unfold bitsOf; omega
theorem read_nil (addr : Nat) (width : Int) (w : World) (ha : addr ≤ 4294967295) (hw : (Lit.int .i64 width).wf = true) :
    Calls Try.prog 20 #[.pointer none, .int .u32 addr, .int .i64 width] w fun e w' => e = .returned (.tuple #[.int .u32 0, .int .i64 1]) ∧ Below w.heap.size w w' :=
  read_refused _ addr width 1 w ha hw (fun F w1 hb => reach_nil addr (bitsOf width) F (by omega) (bits_bd _) w1)
theorem write_nil (addr : Nat) (width v : Int) (w : World) (ha : addr ≤ 4294967295) (hw : (Lit.int .i64 width).wf = true) :
    Calls Try.prog 21 #[.pointer none, .int .u32 addr, .int .i64 width, .int .u32 v] w fun e w' => e = .returned (.int .i64 1) ∧ Below w.heap.size w w' :=
  write_refused _ addr width v 1 w ha hw (fun F w1 hb => reach_nil addr (bitsOf width) F (by omega) (bits_bd _) w1)
theorem line_no (p g : Nat) (bs : List Int) (n : Nat) (w : World) (hi : Img w p g bs) (hn : n ≤ 4294967295) (hl : bs.length ≤ n * 16) :
    Calls Try.prog 24 #[.pointer (some ⟨p, 0, none⟩), .int .u32 n] w fun e w' => e = .returned (.tuple #[.agg (Im.vals zs16).toArray, .int .i64 4]) ∧ Below w.heap.size w w' :=
  line_refused _ n (n * 16) 4 w hn rfl (fun F w1 hb => by
    have hi1 := hi.old hb
    exact reach_range p g bs.length (n * 16) 16 128 F (by omega) (by decide) (by omega) hl w1 ⟨hi1.bd.1, hi1.bd.2.1⟩ hi1.cell)
theorem line_nil (n : Nat) (w : World) (hn : n ≤ 4294967295) :
    Calls Try.prog 24 #[.pointer none, .int .u32 n] w fun e w' => e = .returned (.tuple #[.agg (Im.vals zs16).toArray, .int .i64 1]) ∧ Below w.heap.size w w' :=
  line_refused _ n (n * 16) 1 w hn rfl (fun F w1 hb => reach_nil _ 128 F (by omega) (by omega) w1)
theorem setline_no (p g : Nat) (bs ls : List Int) (n : Nat) (w : World) (hi : Img w p g bs) (hn : n ≤ 4294967295) (hl : bs.length ≤ n * 16) :
    Calls Try.prog 25 #[.pointer (some ⟨p, 0, none⟩), .int .u32 n, .agg (Im.vals ls).toArray] w fun e w' => e = .returned (.int .i64 4) ∧ Below w.heap.size w w' :=
  setline_refused _ n (n * 16) ls 4 w hn rfl (fun F w1 hb => by
    have hi1 := hi.old hb
    exact reach_range p g bs.length (n * 16) 16 128 F (by omega) (by decide) (by omega) hl w1 ⟨hi1.bd.1, hi1.bd.2.1⟩ hi1.cell)
theorem setline_nil (ls : List Int) (n : Nat) (w : World) (hn : n ≤ 4294967295) :
    Calls Try.prog 25 #[.pointer none, .int .u32 n, .agg (Im.vals ls).toArray] w fun e w' => e = .returned (.int .i64 1) ∧ Below w.heap.size w w' :=
  setline_refused _ n (n * 16) ls 1 w hn rfl (fun F w1 hb => reach_nil _ 128 F (by omega) (by omega) w1)

theorem rrefused_no (a : Option Addr) (len c addr : Nat) (width code : Int) (w : World) (ha : addr ≤ 4294967295) (hl : len ≤ 4096) (hw : -9223372036854775808 ≤ width ∧ width ≤ 9223372036854775807) (hc : Refuses len addr width code) :
    Calls Try.prog 19 #[.slice a len c, .int .u32 addr, .int .i64 width] w fun e w' => e = .returned (.int .i64 code) ∧ w = w' := by
  rcases hc with ⟨rfl, h⟩ | ⟨n, rfl, hn, ⟨rfl, h⟩ | ⟨rfl, h, hl2⟩⟩
  · have h1 : (width != 1) = true := by simp only [bne_iff_ne, ne_eq]; omega
    have h2 : (width != 2) = true := by simp only [bne_iff_ne, ne_eq]; omega
    have h4 : (width != 4) = true := by simp only [bne_iff_ne, ne_eq]; omega
    clear h
    go_enter Try.func19, Try.ntmps19
    go_wp2
    go_ret
    exact ⟨rfl, rfl⟩
  · rcases hn with rfl | rfl | rfl
    · omega
    · have h1 : ((addr : Int) % 2 != 0) = true := by simp only [bne_iff_ne, ne_eq]; omega
      clear h
      go_enter Try.func19, Try.ntmps19
      go_wp2
      go_ret
      exact ⟨rfl, rfl⟩
    · have h1 : ((addr : Int) % 4 != 0) = true := by simp only [bne_iff_ne, ne_eq]; omega
      clear h
      go_enter Try.func19, Try.ntmps19
      go_wp2
      go_ret
      exact ⟨rfl, rfl⟩
  · rcases hn with rfl | rfl | rfl
    · have h1 : ((addr : Int) % 1 != 0) = false := by simp only [bne_eq_false_iff_eq]; omega
      clear h
      go_enter Try.func19, Try.ntmps19
      go_wp2
      go_ret
      exact ⟨rfl, rfl⟩
    · have h1 : ((addr : Int) % 2 != 0) = false := by simp only [bne_eq_false_iff_eq]; omega
      clear h
      go_enter Try.func19, Try.ntmps19
      go_wp2
      go_ret
      exact ⟨rfl, rfl⟩
    · have h1 : ((addr : Int) % 4 != 0) = false := by simp only [bne_eq_false_iff_eq]; omega
      clear h
      go_enter Try.func19, Try.ntmps19
      go_wp2
      go_ret
      exact ⟨rfl, rfl⟩
theorem rrefused_ok (a : Option Addr) (len c addr n : Nat) (w : World) (ha : addr ≤ 4294967295) (hl : len ≤ 4096) (hg : Goes len addr n) :
    Calls Try.prog 19 #[.slice a len c, .int .u32 addr, .int .i64 n] w fun e w' => e = .returned (.int .i64 0) ∧ w = w' := by
  obtain ⟨hn, h, hlt⟩ := hg
  rcases hn with rfl | rfl | rfl
  · have h1 : ((addr : Int) % 1 != 0) = false := by simp only [bne_eq_false_iff_eq]; omega
    clear h
    go_enter Try.func19, Try.ntmps19
    go_wp2
    go_ret
    exact ⟨rfl, rfl⟩
  · have h1 : ((addr : Int) % 2 != 0) = false := by simp only [bne_eq_false_iff_eq]; omega
    clear h
    go_enter Try.func19, Try.ntmps19
    go_wp2
    go_ret
    exact ⟨rfl, rfl⟩
  · have h1 : ((addr : Int) % 4 != 0) = false := by simp only [bne_eq_false_iff_eq]; omega
    clear h
    go_enter Try.func19, Try.ntmps19
    go_wp2
    go_ret
    exact ⟨rfl, rfl⟩

end Go.Proofs.Ytchjcfmmnfimlaa
