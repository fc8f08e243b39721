/-
  No cell of these rows narrows 'for every input' (looked for: loops, veiled, ifaces, maps, wideKeys, modest, calm, conditions, laid).
  DERIVED. THE GIVEN ROWS OF THIS SEAT. 7 by the template 'for every input the law returns true; each argument reads behind the call as it read before'; 0 by the template 'total and deterministic' (their statements: YtfajkgbpeapcbaaTotals.lean).
  GIVEN WITH THE SEED: the statements are not yours to turn. If you find one false, say at which input.
  Laid BY PROGRAM, IN A SANDBOX (cutbox-rows.mjs): the forced cells as the released guide's own fill.sh prints them over the translation 53fbbfd5cff689dd… (all of the seat's roots in one cut). By AI agents, Wed Nov 11 2026. No macro, syntax, notation, axiom, sorry.
-/
import Derived.Test.YtfajkgbpeapcbaaChecked
import GoSem.Claim
import GoSem.ClaimJoined
import GoSem.ClaimMapViews
import Derived.JoinedTies
import Derived.KernelRfl
namespace Go.Proofs.Ytfajkgbpeapcbaa
/- THE CELL 'sum', in the pinned program and in every row, IS THE sha256 OF THE DUMP (.gsa) THAT YtfajkgbpeapcbaaProg.lean LOADS. Nothing in Lean hashes anything: it is a label: what it is worth is what the hold of that sum in a sandbox is worth. -/
noncomputable def Try.pinned : Pinned := { name := "ytfajkgbpeapcbaa", sum := "53fbbfd5cff689ddca2e65c665c05faab8e9f63d1423b558122bbf2e81157bb6", checked := Try.checked }
namespace Rows
def none {H : Type} : Left H := { results := [], args := [] }

/-- 'quadrillelaw10.LinesCopies': WHATEVER THE INPUT: true; the input reads as it did. -/
def linesCopiesSpec : ChangeSpec := { name := "linesCopies", fn := fun _ => fun
  | [d1, d2, d3, d4] => { results := [.lit (.bool true)], args := [d1, d2, d3, d4] }
  | _ => none }
def linesCopiesRow : OpenClaim := { program := "ytfajkgbpeapcbaa", sum := "53fbbfd5cff689ddca2e65c665c05faab8e9f63d1423b558122bbf2e81157bb6", func := "quadrille/quadrillelaw10.LinesCopies", spec := "linesCopies", unfollowed := true, recurses := true, apart := false }
def LinesCopiesSaid : Prop := linesCopiesRow.holds Try.pinned (OpenSpec.ofChange linesCopiesSpec)

/-- ITS FALSE NEIGHBOUR: 'it returns false'. Refute it at one input. -/
def linesCopiesWrong : ChangeSpec := { name := "linesCopies", fn := fun _ => fun
  | [d1, d2, d3, d4] => { results := [.lit (.bool false)], args := [d1, d2, d3, d4] }
  | _ => none }
def LinesCopiesWrongFalsely : Prop := linesCopiesRow.holds Try.pinned (OpenSpec.ofChange linesCopiesWrong)

/-- 'quadrillelaw12.HomePlay': WHATEVER THE INPUT: true; the input reads as it did. -/
def homePlaySpec : ChangeSpec := { name := "homePlay", fn := fun _ => fun
  | [d1, d2] => { results := [.lit (.bool true)], args := [d1, d2] }
  | _ => none }
def homePlayRow : OpenClaim := { program := "ytfajkgbpeapcbaa", sum := "53fbbfd5cff689ddca2e65c665c05faab8e9f63d1423b558122bbf2e81157bb6", func := "quadrille/quadrillelaw12.HomePlay", spec := "homePlay", unfollowed := true, recurses := true, apart := false }
def HomePlaySaid : Prop := homePlayRow.holds Try.pinned (OpenSpec.ofChange homePlaySpec)

/-- ITS FALSE NEIGHBOUR: 'it returns false'. Refute it at one input. -/
def homePlayWrong : ChangeSpec := { name := "homePlay", fn := fun _ => fun
  | [d1, d2] => { results := [.lit (.bool false)], args := [d1, d2] }
  | _ => none }
def HomePlayWrongFalsely : Prop := homePlayRow.holds Try.pinned (OpenSpec.ofChange homePlayWrong)

/-- 'quadrillelaw12.HomeServes': WHATEVER THE INPUT: true; the input reads as it did. -/
def homeServesSpec : ChangeSpec := { name := "homeServes", fn := fun _ => fun
  | [d1, d2, d3] => { results := [.lit (.bool true)], args := [d1, d2, d3] }
  | _ => none }
def homeServesRow : OpenClaim := { program := "ytfajkgbpeapcbaa", sum := "53fbbfd5cff689ddca2e65c665c05faab8e9f63d1423b558122bbf2e81157bb6", func := "quadrille/quadrillelaw12.HomeServes", spec := "homeServes", unfollowed := true, recurses := true, apart := false }
def HomeServesSaid : Prop := homeServesRow.holds Try.pinned (OpenSpec.ofChange homeServesSpec)

/-- ITS FALSE NEIGHBOUR: 'it returns false'. Refute it at one input. -/
def homeServesWrong : ChangeSpec := { name := "homeServes", fn := fun _ => fun
  | [d1, d2, d3] => { results := [.lit (.bool false)], args := [d1, d2, d3] }
  | _ => none }
def HomeServesWrongFalsely : Prop := homeServesRow.holds Try.pinned (OpenSpec.ofChange homeServesWrong)

/-- 'quadrillelaw12.HomeApart': WHATEVER THE INPUT: true; the input reads as it did. -/
def homeApartSpec : ChangeSpec := { name := "homeApart", fn := fun _ => fun
  | [d1, d2] => { results := [.lit (.bool true)], args := [d1, d2] }
  | _ => none }
def homeApartRow : OpenClaim := { program := "ytfajkgbpeapcbaa", sum := "53fbbfd5cff689ddca2e65c665c05faab8e9f63d1423b558122bbf2e81157bb6", func := "quadrille/quadrillelaw12.HomeApart", spec := "homeApart", unfollowed := true, recurses := true, apart := false }
def HomeApartSaid : Prop := homeApartRow.holds Try.pinned (OpenSpec.ofChange homeApartSpec)

/-- ITS FALSE NEIGHBOUR: 'it returns false'. Refute it at one input. -/
def homeApartWrong : ChangeSpec := { name := "homeApart", fn := fun _ => fun
  | [d1, d2] => { results := [.lit (.bool false)], args := [d1, d2] }
  | _ => none }
def HomeApartWrongFalsely : Prop := homeApartRow.holds Try.pinned (OpenSpec.ofChange homeApartWrong)

/-- 'quadrillelaw12.HomeOther': WHATEVER THE INPUT: true; the input reads as it did. -/
def homeOtherSpec : ChangeSpec := { name := "homeOther", fn := fun _ => fun
  | [d1, d2, d3] => { results := [.lit (.bool true)], args := [d1, d2, d3] }
  | _ => none }
def homeOtherRow : OpenClaim := { program := "ytfajkgbpeapcbaa", sum := "53fbbfd5cff689ddca2e65c665c05faab8e9f63d1423b558122bbf2e81157bb6", func := "quadrille/quadrillelaw12.HomeOther", spec := "homeOther", unfollowed := true, recurses := true, apart := false }
def HomeOtherSaid : Prop := homeOtherRow.holds Try.pinned (OpenSpec.ofChange homeOtherSpec)

/-- ITS FALSE NEIGHBOUR: 'it returns false'. Refute it at one input. -/
def homeOtherWrong : ChangeSpec := { name := "homeOther", fn := fun _ => fun
  | [d1, d2, d3] => { results := [.lit (.bool false)], args := [d1, d2, d3] }
  | _ => none }
def HomeOtherWrongFalsely : Prop := homeOtherRow.holds Try.pinned (OpenSpec.ofChange homeOtherWrong)

/-- 'quadrillelaw12.HomeNil': WHATEVER THE INPUT: true; the input reads as it did. -/
def homeNilSpec : ChangeSpec := { name := "homeNil", fn := fun _ => fun
  | [d1, d2] => { results := [.lit (.bool true)], args := [d1, d2] }
  | _ => none }
def homeNilRow : OpenClaim := { program := "ytfajkgbpeapcbaa", sum := "53fbbfd5cff689ddca2e65c665c05faab8e9f63d1423b558122bbf2e81157bb6", func := "quadrille/quadrillelaw12.HomeNil", spec := "homeNil", unfollowed := true, recurses := true, apart := false }
def HomeNilSaid : Prop := homeNilRow.holds Try.pinned (OpenSpec.ofChange homeNilSpec)

/-- ITS FALSE NEIGHBOUR: 'it returns false'. Refute it at one input. -/
def homeNilWrong : ChangeSpec := { name := "homeNil", fn := fun _ => fun
  | [d1, d2] => { results := [.lit (.bool false)], args := [d1, d2] }
  | _ => none }
def HomeNilWrongFalsely : Prop := homeNilRow.holds Try.pinned (OpenSpec.ofChange homeNilWrong)

/-- 'quadrillelaw12.HomeQueues': WHATEVER THE INPUT: true; the input reads as it did. -/
def homeQueuesSpec : ChangeSpec := { name := "homeQueues", fn := fun _ => fun
  | [d1, d2] => { results := [.lit (.bool true)], args := [d1, d2] }
  | _ => none }
def homeQueuesRow : OpenClaim := { program := "ytfajkgbpeapcbaa", sum := "53fbbfd5cff689ddca2e65c665c05faab8e9f63d1423b558122bbf2e81157bb6", func := "quadrille/quadrillelaw12.HomeQueues", spec := "homeQueues", unfollowed := true, recurses := true, apart := false }
def HomeQueuesSaid : Prop := homeQueuesRow.holds Try.pinned (OpenSpec.ofChange homeQueuesSpec)

/-- ITS FALSE NEIGHBOUR: 'it returns false'. Refute it at one input. -/
def homeQueuesWrong : ChangeSpec := { name := "homeQueues", fn := fun _ => fun
  | [d1, d2] => { results := [.lit (.bool false)], args := [d1, d2] }
  | _ => none }
def HomeQueuesWrongFalsely : Prop := homeQueuesRow.holds Try.pinned (OpenSpec.ofChange homeQueuesWrong)

/- THE SECOND FORM. 'bulk': how many values and letters a reading holds, each counted each time it is reached (what is shared counts as often as it is met; a slice's spare places count too). A statement '..UptoSaid' is the law's where the arguments, and the package variables that the reading takes, are together of bulk at most 1048576: NARROWER than '..Said'. Prove '..Said' where nothing that the law and all that it calls make is longer than what came in: it says more and counts as full. Else prove '..UptoSaid'. A law counts once. -/
mutual
def uptoBulk {H : Type} : DataW H → Nat
  | .lit (.string bytes) => bytes.length + 1
  | .lit _ => 1
  | .nil => 1
  | .ptr d => uptoBulk d + 1
  | .slice elems spare => uptoBulkAll elems + uptoBulkAll spare + 1
  | .agg parts => uptoBulkAll parts + 1
  | .iface _ d => uptoBulk d + 1
  | .map entries => uptoBulkEntries entries + 1
  | .held _ => 1
def uptoBulkAll {H : Type} : List (DataW H) → Nat
  | [] => 0
  | d :: r => uptoBulk d + uptoBulkAll r
def uptoBulkEntries {H : Type} : List (Lit × DataW H) → Nat
  | [] => 0
  | x :: r => uptoBulkEntry x + uptoBulkEntries r
def uptoBulkEntry {H : Type} : Lit × DataW H → Nat
  | (.string bytes, d) => bytes.length + uptoBulk d + 1
  | (_, d) => uptoBulk d + 1
 end
def uptoSmall : (H : Type) → List (DataW H) → Bool := fun _ ds => decide (uptoBulkAll ds ≤ 1048576)
def OpenSpec.upto (s : _root_.Go.ChangeSpec) : _root_.Go.OpenSpec := { _root_.Go.OpenSpec.ofChange s with cond := some uptoSmall }

/-- 'quadrillelaw10.LinesCopies', WHERE WHAT IT READS IS OF BULK AT MOST 1048576: true; the input reads as it did. -/
def linesCopiesUptoRow : OpenClaim := { program := "ytfajkgbpeapcbaa", sum := "53fbbfd5cff689ddca2e65c665c05faab8e9f63d1423b558122bbf2e81157bb6", func := "quadrille/quadrillelaw10.LinesCopies", spec := "linesCopies", unfollowed := true, recurses := true, apart := false, narrowed := true }
def LinesCopiesUptoSaid : Prop := linesCopiesUptoRow.holds Try.pinned (OpenSpec.upto linesCopiesSpec)

/-- 'quadrillelaw12.HomePlay', WHERE WHAT IT READS IS OF BULK AT MOST 1048576: true; the input reads as it did. -/
def homePlayUptoRow : OpenClaim := { program := "ytfajkgbpeapcbaa", sum := "53fbbfd5cff689ddca2e65c665c05faab8e9f63d1423b558122bbf2e81157bb6", func := "quadrille/quadrillelaw12.HomePlay", spec := "homePlay", unfollowed := true, recurses := true, apart := false, narrowed := true }
def HomePlayUptoSaid : Prop := homePlayUptoRow.holds Try.pinned (OpenSpec.upto homePlaySpec)

/-- 'quadrillelaw12.HomeServes', WHERE WHAT IT READS IS OF BULK AT MOST 1048576: true; the input reads as it did. -/
def homeServesUptoRow : OpenClaim := { program := "ytfajkgbpeapcbaa", sum := "53fbbfd5cff689ddca2e65c665c05faab8e9f63d1423b558122bbf2e81157bb6", func := "quadrille/quadrillelaw12.HomeServes", spec := "homeServes", unfollowed := true, recurses := true, apart := false, narrowed := true }
def HomeServesUptoSaid : Prop := homeServesUptoRow.holds Try.pinned (OpenSpec.upto homeServesSpec)

/-- 'quadrillelaw12.HomeApart', WHERE WHAT IT READS IS OF BULK AT MOST 1048576: true; the input reads as it did. -/
def homeApartUptoRow : OpenClaim := { program := "ytfajkgbpeapcbaa", sum := "53fbbfd5cff689ddca2e65c665c05faab8e9f63d1423b558122bbf2e81157bb6", func := "quadrille/quadrillelaw12.HomeApart", spec := "homeApart", unfollowed := true, recurses := true, apart := false, narrowed := true }
def HomeApartUptoSaid : Prop := homeApartUptoRow.holds Try.pinned (OpenSpec.upto homeApartSpec)

/-- 'quadrillelaw12.HomeOther', WHERE WHAT IT READS IS OF BULK AT MOST 1048576: true; the input reads as it did. -/
def homeOtherUptoRow : OpenClaim := { program := "ytfajkgbpeapcbaa", sum := "53fbbfd5cff689ddca2e65c665c05faab8e9f63d1423b558122bbf2e81157bb6", func := "quadrille/quadrillelaw12.HomeOther", spec := "homeOther", unfollowed := true, recurses := true, apart := false, narrowed := true }
def HomeOtherUptoSaid : Prop := homeOtherUptoRow.holds Try.pinned (OpenSpec.upto homeOtherSpec)

/-- 'quadrillelaw12.HomeNil', WHERE WHAT IT READS IS OF BULK AT MOST 1048576: true; the input reads as it did. -/
def homeNilUptoRow : OpenClaim := { program := "ytfajkgbpeapcbaa", sum := "53fbbfd5cff689ddca2e65c665c05faab8e9f63d1423b558122bbf2e81157bb6", func := "quadrille/quadrillelaw12.HomeNil", spec := "homeNil", unfollowed := true, recurses := true, apart := false, narrowed := true }
def HomeNilUptoSaid : Prop := homeNilUptoRow.holds Try.pinned (OpenSpec.upto homeNilSpec)

/-- 'quadrillelaw12.HomeQueues', WHERE WHAT IT READS IS OF BULK AT MOST 1048576: true; the input reads as it did. -/
def homeQueuesUptoRow : OpenClaim := { program := "ytfajkgbpeapcbaa", sum := "53fbbfd5cff689ddca2e65c665c05faab8e9f63d1423b558122bbf2e81157bb6", func := "quadrille/quadrillelaw12.HomeQueues", spec := "homeQueues", unfollowed := true, recurses := true, apart := false, narrowed := true }
def HomeQueuesUptoSaid : Prop := homeQueuesUptoRow.holds Try.pinned (OpenSpec.upto homeQueuesSpec)

end Rows
end Go.Proofs.Ytfajkgbpeapcbaa
