/-
  No cell of these rows narrows 'for every input' (looked for: loops, veiled, ifaces, maps, wideKeys, modest, calm, conditions, laid).
  DERIVED. THE GIVEN ROWS OF THIS SEAT. 7 by the template 'for every input the law returns true; each argument reads behind the call as it read before'; 0 by the template 'total and deterministic' (their statements: YtifniogldinbdaaTotals.lean).
  GIVEN WITH THE SEED: the statements are not yours to turn. If you find one false, say at which input.
  Laid BY PROGRAM, IN A SANDBOX (cutbox-rows.mjs): the forced cells as the released guide's own fill.sh prints them over the translation ed5316358f8583d3… (all of the seat's roots in one cut). By AI agents, Wed Nov 11 2026. No macro, syntax, notation, axiom, sorry.
-/
import Derived.Test.YtifniogldinbdaaChecked
import GoSem.Claim
import GoSem.ClaimJoined
import GoSem.ClaimMapViews
import Derived.JoinedTies
import Derived.KernelRfl
namespace Go.Proofs.Ytifniogldinbdaa
/- THE CELL 'sum', in the pinned program and in every row, IS THE sha256 OF THE DUMP (.gsa) THAT YtifniogldinbdaaProg.lean LOADS. Nothing in Lean hashes anything: it is a label: what it is worth is what the hold of that sum in a sandbox is worth. -/
noncomputable def Try.pinned : Pinned := { name := "ytifniogldinbdaa", sum := "ed5316358f8583d3bdc38ba7ab73a2bc814aa915dd68a0bcabded7a7a1941ed2", checked := Try.checked }
namespace Rows
def none {H : Type} : Left H := { results := [], args := [] }

/-- 'quadrillelaw10.LinesMakes': WHATEVER THE INPUT: true; the input reads as it did. -/
def linesMakesSpec : ChangeSpec := { name := "linesMakes", fn := fun _ => fun
  | [d1, d2] => { results := [.lit (.bool true)], args := [d1, d2] }
  | _ => none }
def linesMakesRow : OpenClaim := { program := "ytifniogldinbdaa", sum := "ed5316358f8583d3bdc38ba7ab73a2bc814aa915dd68a0bcabded7a7a1941ed2", func := "quadrille/quadrillelaw10.LinesMakes", spec := "linesMakes", unfollowed := true, recurses := true, apart := false }
def LinesMakesSaid : Prop := linesMakesRow.holds Try.pinned (OpenSpec.ofChange linesMakesSpec)

/-- ITS FALSE NEIGHBOUR: 'it returns false'. Refute it at one input. -/
def linesMakesWrong : ChangeSpec := { name := "linesMakes", fn := fun _ => fun
  | [d1, d2] => { results := [.lit (.bool false)], args := [d1, d2] }
  | _ => none }
def LinesMakesWrongFalsely : Prop := linesMakesRow.holds Try.pinned (OpenSpec.ofChange linesMakesWrong)

/-- 'quadrillelaw10.LinesPlays': WHATEVER THE INPUT: true; the input reads as it did. -/
def linesPlaysSpec : ChangeSpec := { name := "linesPlays", fn := fun _ => fun
  | [d1, d2, d3] => { results := [.lit (.bool true)], args := [d1, d2, d3] }
  | _ => none }
def linesPlaysRow : OpenClaim := { program := "ytifniogldinbdaa", sum := "ed5316358f8583d3bdc38ba7ab73a2bc814aa915dd68a0bcabded7a7a1941ed2", func := "quadrille/quadrillelaw10.LinesPlays", spec := "linesPlays", unfollowed := true, recurses := true, apart := false }
def LinesPlaysSaid : Prop := linesPlaysRow.holds Try.pinned (OpenSpec.ofChange linesPlaysSpec)

/-- ITS FALSE NEIGHBOUR: 'it returns false'. Refute it at one input. -/
def linesPlaysWrong : ChangeSpec := { name := "linesPlays", fn := fun _ => fun
  | [d1, d2, d3] => { results := [.lit (.bool false)], args := [d1, d2, d3] }
  | _ => none }
def LinesPlaysWrongFalsely : Prop := linesPlaysRow.holds Try.pinned (OpenSpec.ofChange linesPlaysWrong)

/-- 'quadrillelaw10.LinesTells': WHATEVER THE INPUT: true; the input reads as it did. -/
def linesTellsSpec : ChangeSpec := { name := "linesTells", fn := fun _ => fun
  | [d1, d2, d3, d4] => { results := [.lit (.bool true)], args := [d1, d2, d3, d4] }
  | _ => none }
def linesTellsRow : OpenClaim := { program := "ytifniogldinbdaa", sum := "ed5316358f8583d3bdc38ba7ab73a2bc814aa915dd68a0bcabded7a7a1941ed2", func := "quadrille/quadrillelaw10.LinesTells", spec := "linesTells", unfollowed := true, recurses := true, apart := false }
def LinesTellsSaid : Prop := linesTellsRow.holds Try.pinned (OpenSpec.ofChange linesTellsSpec)

/-- ITS FALSE NEIGHBOUR: 'it returns false'. Refute it at one input. -/
def linesTellsWrong : ChangeSpec := { name := "linesTells", fn := fun _ => fun
  | [d1, d2, d3, d4] => { results := [.lit (.bool false)], args := [d1, d2, d3, d4] }
  | _ => none }
def LinesTellsWrongFalsely : Prop := linesTellsRow.holds Try.pinned (OpenSpec.ofChange linesTellsWrong)

/-- 'quadrillelaw10.LinesCopies': WHATEVER THE INPUT: true; the input reads as it did. -/
def linesCopiesSpec : ChangeSpec := { name := "linesCopies", fn := fun _ => fun
  | [d1, d2, d3, d4] => { results := [.lit (.bool true)], args := [d1, d2, d3, d4] }
  | _ => none }
def linesCopiesRow : OpenClaim := { program := "ytifniogldinbdaa", sum := "ed5316358f8583d3bdc38ba7ab73a2bc814aa915dd68a0bcabded7a7a1941ed2", func := "quadrille/quadrillelaw10.LinesCopies", spec := "linesCopies", unfollowed := true, recurses := true, apart := false }
def LinesCopiesSaid : Prop := linesCopiesRow.holds Try.pinned (OpenSpec.ofChange linesCopiesSpec)

/-- ITS FALSE NEIGHBOUR: 'it returns false'. Refute it at one input. -/
def linesCopiesWrong : ChangeSpec := { name := "linesCopies", fn := fun _ => fun
  | [d1, d2, d3, d4] => { results := [.lit (.bool false)], args := [d1, d2, d3, d4] }
  | _ => none }
def LinesCopiesWrongFalsely : Prop := linesCopiesRow.holds Try.pinned (OpenSpec.ofChange linesCopiesWrong)

/-- 'quadrillelaw10.LinesPuts': WHATEVER THE INPUT: true; the input reads as it did. -/
def linesPutsSpec : ChangeSpec := { name := "linesPuts", fn := fun _ => fun
  | [d1, d2, d3] => { results := [.lit (.bool true)], args := [d1, d2, d3] }
  | _ => none }
def linesPutsRow : OpenClaim := { program := "ytifniogldinbdaa", sum := "ed5316358f8583d3bdc38ba7ab73a2bc814aa915dd68a0bcabded7a7a1941ed2", func := "quadrille/quadrillelaw10.LinesPuts", spec := "linesPuts", unfollowed := true, recurses := true, apart := false }
def LinesPutsSaid : Prop := linesPutsRow.holds Try.pinned (OpenSpec.ofChange linesPutsSpec)

/-- ITS FALSE NEIGHBOUR: 'it returns false'. Refute it at one input. -/
def linesPutsWrong : ChangeSpec := { name := "linesPuts", fn := fun _ => fun
  | [d1, d2, d3] => { results := [.lit (.bool false)], args := [d1, d2, d3] }
  | _ => none }
def LinesPutsWrongFalsely : Prop := linesPutsRow.holds Try.pinned (OpenSpec.ofChange linesPutsWrong)

/-- 'quadrillelaw10.LinesDrops': WHATEVER THE INPUT: true; the input reads as it did. -/
def linesDropsSpec : ChangeSpec := { name := "linesDrops", fn := fun _ => fun
  | [d1, d2] => { results := [.lit (.bool true)], args := [d1, d2] }
  | _ => none }
def linesDropsRow : OpenClaim := { program := "ytifniogldinbdaa", sum := "ed5316358f8583d3bdc38ba7ab73a2bc814aa915dd68a0bcabded7a7a1941ed2", func := "quadrille/quadrillelaw10.LinesDrops", spec := "linesDrops", unfollowed := true, recurses := true, apart := false }
def LinesDropsSaid : Prop := linesDropsRow.holds Try.pinned (OpenSpec.ofChange linesDropsSpec)

/-- ITS FALSE NEIGHBOUR: 'it returns false'. Refute it at one input. -/
def linesDropsWrong : ChangeSpec := { name := "linesDrops", fn := fun _ => fun
  | [d1, d2] => { results := [.lit (.bool false)], args := [d1, d2] }
  | _ => none }
def LinesDropsWrongFalsely : Prop := linesDropsRow.holds Try.pinned (OpenSpec.ofChange linesDropsWrong)

/-- 'quadrillelaw10.LinesRoom': WHATEVER THE INPUT: true; the input reads as it did. -/
def linesRoomSpec : ChangeSpec := { name := "linesRoom", fn := fun _ => fun
  | [d1, d2, d3, d4, d5] => { results := [.lit (.bool true)], args := [d1, d2, d3, d4, d5] }
  | _ => none }
def linesRoomRow : OpenClaim := { program := "ytifniogldinbdaa", sum := "ed5316358f8583d3bdc38ba7ab73a2bc814aa915dd68a0bcabded7a7a1941ed2", func := "quadrille/quadrillelaw10.LinesRoom", spec := "linesRoom", unfollowed := true, recurses := true, apart := false }
def LinesRoomSaid : Prop := linesRoomRow.holds Try.pinned (OpenSpec.ofChange linesRoomSpec)

/-- ITS FALSE NEIGHBOUR: 'it returns false'. Refute it at one input. -/
def linesRoomWrong : ChangeSpec := { name := "linesRoom", fn := fun _ => fun
  | [d1, d2, d3, d4, d5] => { results := [.lit (.bool false)], args := [d1, d2, d3, d4, d5] }
  | _ => none }
def LinesRoomWrongFalsely : Prop := linesRoomRow.holds Try.pinned (OpenSpec.ofChange linesRoomWrong)

/- THE SECOND FORM. 'bulk': how many values and letters a reading holds, each counted each time it is reached (what is shared counts as often as it is met; a slice's spare places count too). A statement '..UptoSaid' is the law's where the arguments, and the package variables that the reading takes, are together of bulk at most 1048576: NARROWER than '..Said'. Prove '..Said' where nothing that the law and all that it calls make is longer than what came in: it says more and counts as full. Else prove '..UptoSaid'. A law counts once. -/
mutual
def uptoBulk {H : Type} : DataW H → Nat
  | .lit (.string bytes) => bytes.length + 1
  | .lit _ => 1
  | .nil => 1
  | .ptr d => uptoBulk d + 1
  | .slice elems spare => uptoBulkAll elems + uptoBulkAll spare + 1
  | .agg parts => uptoBulkAll parts + 1
  | .iface _ d => uptoBulk d + 1
  | .map entries => uptoBulkEntries entries + 1
  | .held _ => 1
def uptoBulkAll {H : Type} : List (DataW H) → Nat
  | [] => 0
  | d :: r => uptoBulk d + uptoBulkAll r
def uptoBulkEntries {H : Type} : List (Lit × DataW H) → Nat
  | [] => 0
  | x :: r => uptoBulkEntry x + uptoBulkEntries r
def uptoBulkEntry {H : Type} : Lit × DataW H → Nat
  | (.string bytes, d) => bytes.length + uptoBulk d + 1
  | (_, d) => uptoBulk d + 1
 end
def uptoSmall : (H : Type) → List (DataW H) → Bool := fun _ ds => decide (uptoBulkAll ds ≤ 1048576)
def OpenSpec.upto (s : _root_.Go.ChangeSpec) : _root_.Go.OpenSpec := { _root_.Go.OpenSpec.ofChange s with cond := some uptoSmall }

/-- 'quadrillelaw10.LinesMakes', WHERE WHAT IT READS IS OF BULK AT MOST 1048576: true; the input reads as it did. -/
def linesMakesUptoRow : OpenClaim := { program := "ytifniogldinbdaa", sum := "ed5316358f8583d3bdc38ba7ab73a2bc814aa915dd68a0bcabded7a7a1941ed2", func := "quadrille/quadrillelaw10.LinesMakes", spec := "linesMakes", unfollowed := true, recurses := true, apart := false, narrowed := true }
def LinesMakesUptoSaid : Prop := linesMakesUptoRow.holds Try.pinned (OpenSpec.upto linesMakesSpec)

/-- 'quadrillelaw10.LinesPlays', WHERE WHAT IT READS IS OF BULK AT MOST 1048576: true; the input reads as it did. -/
def linesPlaysUptoRow : OpenClaim := { program := "ytifniogldinbdaa", sum := "ed5316358f8583d3bdc38ba7ab73a2bc814aa915dd68a0bcabded7a7a1941ed2", func := "quadrille/quadrillelaw10.LinesPlays", spec := "linesPlays", unfollowed := true, recurses := true, apart := false, narrowed := true }
def LinesPlaysUptoSaid : Prop := linesPlaysUptoRow.holds Try.pinned (OpenSpec.upto linesPlaysSpec)

/-- 'quadrillelaw10.LinesTells', WHERE WHAT IT READS IS OF BULK AT MOST 1048576: true; the input reads as it did. -/
def linesTellsUptoRow : OpenClaim := { program := "ytifniogldinbdaa", sum := "ed5316358f8583d3bdc38ba7ab73a2bc814aa915dd68a0bcabded7a7a1941ed2", func := "quadrille/quadrillelaw10.LinesTells", spec := "linesTells", unfollowed := true, recurses := true, apart := false, narrowed := true }
def LinesTellsUptoSaid : Prop := linesTellsUptoRow.holds Try.pinned (OpenSpec.upto linesTellsSpec)

/-- 'quadrillelaw10.LinesCopies', WHERE WHAT IT READS IS OF BULK AT MOST 1048576: true; the input reads as it did. -/
def linesCopiesUptoRow : OpenClaim := { program := "ytifniogldinbdaa", sum := "ed5316358f8583d3bdc38ba7ab73a2bc814aa915dd68a0bcabded7a7a1941ed2", func := "quadrille/quadrillelaw10.LinesCopies", spec := "linesCopies", unfollowed := true, recurses := true, apart := false, narrowed := true }
def LinesCopiesUptoSaid : Prop := linesCopiesUptoRow.holds Try.pinned (OpenSpec.upto linesCopiesSpec)

/-- 'quadrillelaw10.LinesPuts', WHERE WHAT IT READS IS OF BULK AT MOST 1048576: true; the input reads as it did. -/
def linesPutsUptoRow : OpenClaim := { program := "ytifniogldinbdaa", sum := "ed5316358f8583d3bdc38ba7ab73a2bc814aa915dd68a0bcabded7a7a1941ed2", func := "quadrille/quadrillelaw10.LinesPuts", spec := "linesPuts", unfollowed := true, recurses := true, apart := false, narrowed := true }
def LinesPutsUptoSaid : Prop := linesPutsUptoRow.holds Try.pinned (OpenSpec.upto linesPutsSpec)

/-- 'quadrillelaw10.LinesDrops', WHERE WHAT IT READS IS OF BULK AT MOST 1048576: true; the input reads as it did. -/
def linesDropsUptoRow : OpenClaim := { program := "ytifniogldinbdaa", sum := "ed5316358f8583d3bdc38ba7ab73a2bc814aa915dd68a0bcabded7a7a1941ed2", func := "quadrille/quadrillelaw10.LinesDrops", spec := "linesDrops", unfollowed := true, recurses := true, apart := false, narrowed := true }
def LinesDropsUptoSaid : Prop := linesDropsUptoRow.holds Try.pinned (OpenSpec.upto linesDropsSpec)

/-- 'quadrillelaw10.LinesRoom', WHERE WHAT IT READS IS OF BULK AT MOST 1048576: true; the input reads as it did. -/
def linesRoomUptoRow : OpenClaim := { program := "ytifniogldinbdaa", sum := "ed5316358f8583d3bdc38ba7ab73a2bc814aa915dd68a0bcabded7a7a1941ed2", func := "quadrille/quadrillelaw10.LinesRoom", spec := "linesRoom", unfollowed := true, recurses := true, apart := false, narrowed := true }
def LinesRoomUptoSaid : Prop := linesRoomUptoRow.holds Try.pinned (OpenSpec.upto linesRoomSpec)

end Rows
end Go.Proofs.Ytifniogldinbdaa
