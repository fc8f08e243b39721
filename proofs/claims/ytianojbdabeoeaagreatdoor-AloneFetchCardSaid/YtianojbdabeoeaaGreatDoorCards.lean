/-
  DERIVED. GIVEN WITH THE SEED: THE CARDS: each row of YtianojbdabeoeaaGreatDoorRows.lean that lists a variable, with what it lists TIED to the program's text (the seventh form; the later family's looks); each row that meets fmt, with fmt's text TOLD by the authors' own Lean function (tested against real Go, not proved from fmt's source: count such statements apart). THE CARD IS WHAT COUNTS. Prove the row's statement (the work); the ties are given (YtianojbdabeoeaaGreatDoorTie.lean); close each card by the builder's one call (the guide's Derived/Test/ToyasCard.lean, 'card_holds'). Laid BY PROGRAM, IN A SANDBOX (cutbox-door.mjs). By AI agents, Wed Nov 11 2026. No macro, syntax, notation, axiom, sorry.
-/
import Derived.Test.YtianojbdabeoeaaGreatDoorRows
import GoSem.ClaimSeven
namespace Go.Proofs.YtianojbdabeoeaaGreatDoor
namespace Rows

/-- THE TIED CARD OF 'quadrillelaw04.HartOne'. -/
def hartOneCard : Claim7 := { stood := { row := hartOneRow, standIns := [], harness := (true, "82bfec6a5cc94f9b1d3da383dbb76235c1b4086799d61dcb4d66873682f9d504"), looks := true }, kinds := [], alts := [], laidByText := true, laidKinds := [.data, .data, .data], laidTests := true, laidLooks := .later }
def HartOneCardSaid : Prop := Claim7.holds Tryz.pinned (.plain (OpenSpec.ofChange hartOneSpec)) hartOneCard

/-- THE TIED CARD OF 'quadrillelaw04.HartLoads'. -/
def hartLoadsCard : Claim7 := { stood := { row := hartLoadsRow, standIns := [], harness := (true, "82bfec6a5cc94f9b1d3da383dbb76235c1b4086799d61dcb4d66873682f9d504"), looks := true }, kinds := [], alts := [], laidByText := true, laidKinds := [.data, .data, .data], laidTests := true, laidLooks := .later }
def HartLoadsCardSaid : Prop := Claim7.holds Tryz.pinned (.plain (OpenSpec.ofChange hartLoadsSpec)) hartLoadsCard

/-- THE TIED CARD OF 'quadrillelaw05.AloneRun'. -/
def aloneRunCard : Claim7 := { stood := { row := aloneRunRow, standIns := [], harness := (true, "82bfec6a5cc94f9b1d3da383dbb76235c1b4086799d61dcb4d66873682f9d504"), looks := true }, kinds := [], alts := [], laidByText := true, laidKinds := [.data, .data, .data], laidTests := true, laidLooks := .later }
def AloneRunCardSaid : Prop := Claim7.holds Tryz.pinned (.plain (OpenSpec.ofChange aloneRunSpec)) aloneRunCard

/-- THE TIED CARD OF 'quadrillelaw05.AloneAgain'. -/
def aloneAgainCard : Claim7 := { stood := { row := aloneAgainRow, standIns := [], harness := (true, "82bfec6a5cc94f9b1d3da383dbb76235c1b4086799d61dcb4d66873682f9d504"), looks := true }, kinds := [], alts := [], laidByText := true, laidKinds := [.data, .data, .data], laidTests := true, laidLooks := .later }
def AloneAgainCardSaid : Prop := Claim7.holds Tryz.pinned (.plain (OpenSpec.ofChange aloneAgainSpec)) aloneAgainCard

/-- THE TIED CARD OF 'quadrillelaw05.AloneParts'. -/
def alonePartsCard : Claim7 := { stood := { row := alonePartsRow, standIns := [], harness := (true, "82bfec6a5cc94f9b1d3da383dbb76235c1b4086799d61dcb4d66873682f9d504"), looks := true }, kinds := [], alts := [], laidByText := true, laidKinds := [.data, .data, .data], laidTests := true, laidLooks := .later }
def AlonePartsCardSaid : Prop := Claim7.holds Tryz.pinned (.plain (OpenSpec.ofChange alonePartsSpec)) alonePartsCard

/-- THE TIED CARD OF 'quadrillelaw05.AloneFetch'. -/
def aloneFetchCard : Claim7 := { stood := { row := aloneFetchRow, standIns := [], harness := (true, "82bfec6a5cc94f9b1d3da383dbb76235c1b4086799d61dcb4d66873682f9d504"), looks := true }, kinds := [], alts := [], laidByText := true, laidKinds := [.data, .data, .data], laidTests := true, laidLooks := .later }
def AloneFetchCardSaid : Prop := Claim7.holds Tryz.pinned (.plain (OpenSpec.ofChange aloneFetchSpec)) aloneFetchCard

/-- THE TIED CARD OF 'quadrillelaw05.AloneReserves'. -/
def aloneReservesCard : Claim7 := { stood := { row := aloneReservesRow, standIns := [], harness := (true, "82bfec6a5cc94f9b1d3da383dbb76235c1b4086799d61dcb4d66873682f9d504"), looks := true }, kinds := [], alts := [], laidByText := true, laidKinds := [.data, .data, .data], laidTests := true, laidLooks := .later }
def AloneReservesCardSaid : Prop := Claim7.holds Tryz.pinned (.plain (OpenSpec.ofChange aloneReservesSpec)) aloneReservesCard

/-- THE TIED CARD OF 'quadrillelaw05.AloneOne'. -/
def aloneOneCard : Claim7 := { stood := { row := aloneOneRow, standIns := [], harness := (true, "82bfec6a5cc94f9b1d3da383dbb76235c1b4086799d61dcb4d66873682f9d504"), looks := true }, kinds := [], alts := [], laidByText := true, laidKinds := [.data, .data, .data], laidTests := true, laidLooks := .later }
def AloneOneCardSaid : Prop := Claim7.holds Tryz.pinned (.plain (OpenSpec.ofChange aloneOneSpec)) aloneOneCard

/-- THE SECOND FORM's CARD OF 'quadrillelaw04.HartOne'. -/
def hartOneUptoCard : Claim7 := { stood := { row := hartOneUptoRow, standIns := [], harness := (true, "82bfec6a5cc94f9b1d3da383dbb76235c1b4086799d61dcb4d66873682f9d504"), looks := true }, kinds := [], alts := [], laidByText := true, laidKinds := [.data, .data, .data], laidTests := true, laidLooks := .later }
def HartOneUptoCardSaid : Prop := Claim7.holds Tryz.pinned (.plain (OpenSpec.upto hartOneSpec)) hartOneUptoCard

/-- THE SECOND FORM's CARD OF 'quadrillelaw04.HartLoads'. -/
def hartLoadsUptoCard : Claim7 := { stood := { row := hartLoadsUptoRow, standIns := [], harness := (true, "82bfec6a5cc94f9b1d3da383dbb76235c1b4086799d61dcb4d66873682f9d504"), looks := true }, kinds := [], alts := [], laidByText := true, laidKinds := [.data, .data, .data], laidTests := true, laidLooks := .later }
def HartLoadsUptoCardSaid : Prop := Claim7.holds Tryz.pinned (.plain (OpenSpec.upto hartLoadsSpec)) hartLoadsUptoCard

/-- THE SECOND FORM's CARD OF 'quadrillelaw05.AloneRun'. -/
def aloneRunUptoCard : Claim7 := { stood := { row := aloneRunUptoRow, standIns := [], harness := (true, "82bfec6a5cc94f9b1d3da383dbb76235c1b4086799d61dcb4d66873682f9d504"), looks := true }, kinds := [], alts := [], laidByText := true, laidKinds := [.data, .data, .data], laidTests := true, laidLooks := .later }
def AloneRunUptoCardSaid : Prop := Claim7.holds Tryz.pinned (.plain (OpenSpec.upto aloneRunSpec)) aloneRunUptoCard

/-- THE SECOND FORM's CARD OF 'quadrillelaw05.AloneAgain'. -/
def aloneAgainUptoCard : Claim7 := { stood := { row := aloneAgainUptoRow, standIns := [], harness := (true, "82bfec6a5cc94f9b1d3da383dbb76235c1b4086799d61dcb4d66873682f9d504"), looks := true }, kinds := [], alts := [], laidByText := true, laidKinds := [.data, .data, .data], laidTests := true, laidLooks := .later }
def AloneAgainUptoCardSaid : Prop := Claim7.holds Tryz.pinned (.plain (OpenSpec.upto aloneAgainSpec)) aloneAgainUptoCard

/-- THE SECOND FORM's CARD OF 'quadrillelaw05.AloneParts'. -/
def alonePartsUptoCard : Claim7 := { stood := { row := alonePartsUptoRow, standIns := [], harness := (true, "82bfec6a5cc94f9b1d3da383dbb76235c1b4086799d61dcb4d66873682f9d504"), looks := true }, kinds := [], alts := [], laidByText := true, laidKinds := [.data, .data, .data], laidTests := true, laidLooks := .later }
def AlonePartsUptoCardSaid : Prop := Claim7.holds Tryz.pinned (.plain (OpenSpec.upto alonePartsSpec)) alonePartsUptoCard

/-- THE SECOND FORM's CARD OF 'quadrillelaw05.AloneFetch'. -/
def aloneFetchUptoCard : Claim7 := { stood := { row := aloneFetchUptoRow, standIns := [], harness := (true, "82bfec6a5cc94f9b1d3da383dbb76235c1b4086799d61dcb4d66873682f9d504"), looks := true }, kinds := [], alts := [], laidByText := true, laidKinds := [.data, .data, .data], laidTests := true, laidLooks := .later }
def AloneFetchUptoCardSaid : Prop := Claim7.holds Tryz.pinned (.plain (OpenSpec.upto aloneFetchSpec)) aloneFetchUptoCard

/-- THE SECOND FORM's CARD OF 'quadrillelaw05.AloneReserves'. -/
def aloneReservesUptoCard : Claim7 := { stood := { row := aloneReservesUptoRow, standIns := [], harness := (true, "82bfec6a5cc94f9b1d3da383dbb76235c1b4086799d61dcb4d66873682f9d504"), looks := true }, kinds := [], alts := [], laidByText := true, laidKinds := [.data, .data, .data], laidTests := true, laidLooks := .later }
def AloneReservesUptoCardSaid : Prop := Claim7.holds Tryz.pinned (.plain (OpenSpec.upto aloneReservesSpec)) aloneReservesUptoCard

/-- THE SECOND FORM's CARD OF 'quadrillelaw05.AloneOne'. -/
def aloneOneUptoCard : Claim7 := { stood := { row := aloneOneUptoRow, standIns := [], harness := (true, "82bfec6a5cc94f9b1d3da383dbb76235c1b4086799d61dcb4d66873682f9d504"), looks := true }, kinds := [], alts := [], laidByText := true, laidKinds := [.data, .data, .data], laidTests := true, laidLooks := .later }
def AloneOneUptoCardSaid : Prop := Claim7.holds Tryz.pinned (.plain (OpenSpec.upto aloneOneSpec)) aloneOneUptoCard
end Rows
end Go.Proofs.YtianojbdabeoeaaGreatDoor
