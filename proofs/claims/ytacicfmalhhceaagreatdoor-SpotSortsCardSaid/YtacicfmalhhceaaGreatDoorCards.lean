/-
  DERIVED. GIVEN WITH THE SEED: THE CARDS: each row of YtacicfmalhhceaaGreatDoorRows.lean that lists a variable, with what it lists TIED to the program's text (the seventh form; the later family's looks); each row that meets fmt, with fmt's text TOLD by the authors' own Lean function (tested against real Go, not proved from fmt's source: count such statements apart). THE CARD IS WHAT COUNTS. Prove the row's statement (the work); the ties are given (YtacicfmalhhceaaGreatDoorTie.lean); close each card by the builder's one call (the guide's Derived/Test/ToyasCard.lean, 'card_holds'). Laid BY PROGRAM, IN A SANDBOX (cutbox-door.mjs). By AI agents, Wed Nov 11 2026. No macro, syntax, notation, axiom, sorry.
-/
import Derived.Test.YtacicfmalhhceaaGreatDoorRows
import GoSem.ClaimSeven
namespace Go.Proofs.YtacicfmalhhceaaGreatDoor
namespace Rows

/-- THE TIED CARD OF 'snicketlaw10.SpotMakes'. -/
def spotMakesCard : Claim7 := { stood := { row := spotMakesRow, standIns := [], harness := (true, "cc35f9b50fbfce2cf00ff7bd9f84b37f404da8daeef8213665837f35744b7ce6"), looks := false }, kinds := [], alts := [], laidByText := true, laidKinds := [.data, .data, .data], laidTests := true, laidLooks := .later }
def SpotMakesCardSaid : Prop := Claim7.holds Tryz.pinned (.plain (OpenSpec.ofChange spotMakesSpec)) spotMakesCard

/-- THE TIED CARD OF 'snicketlaw10.SpotSorts'. -/
def spotSortsCard : Claim7 := { stood := { row := spotSortsRow, standIns := [], harness := (true, "cc35f9b50fbfce2cf00ff7bd9f84b37f404da8daeef8213665837f35744b7ce6"), looks := false }, kinds := [], alts := [], laidByText := true, laidKinds := [.data, .data, .data], laidTests := true, laidLooks := .later }
def SpotSortsCardSaid : Prop := Claim7.holds Tryz.pinned (.plain (OpenSpec.ofChange spotSortsSpec)) spotSortsCard

/-- THE TIED CARD OF 'snicketlaw10.SpotAlong'. -/
def spotAlongCard : Claim7 := { stood := { row := spotAlongRow, standIns := [], harness := (true, "cc35f9b50fbfce2cf00ff7bd9f84b37f404da8daeef8213665837f35744b7ce6"), looks := false }, kinds := [], alts := [], laidByText := true, laidKinds := [.data, .data, .data], laidTests := true, laidLooks := .later }
def SpotAlongCardSaid : Prop := Claim7.holds Tryz.pinned (.plain (OpenSpec.ofChange spotAlongSpec)) spotAlongCard

/-- THE SECOND FORM's CARD OF 'snicketlaw10.SpotMakes'. -/
def spotMakesUptoCard : Claim7 := { stood := { row := spotMakesUptoRow, standIns := [], harness := (true, "cc35f9b50fbfce2cf00ff7bd9f84b37f404da8daeef8213665837f35744b7ce6"), looks := false }, kinds := [], alts := [], laidByText := true, laidKinds := [.data, .data, .data], laidTests := true, laidLooks := .later }
def SpotMakesUptoCardSaid : Prop := Claim7.holds Tryz.pinned (.plain (OpenSpec.upto spotMakesSpec)) spotMakesUptoCard

/-- THE SECOND FORM's CARD OF 'snicketlaw10.SpotSorts'. -/
def spotSortsUptoCard : Claim7 := { stood := { row := spotSortsUptoRow, standIns := [], harness := (true, "cc35f9b50fbfce2cf00ff7bd9f84b37f404da8daeef8213665837f35744b7ce6"), looks := false }, kinds := [], alts := [], laidByText := true, laidKinds := [.data, .data, .data], laidTests := true, laidLooks := .later }
def SpotSortsUptoCardSaid : Prop := Claim7.holds Tryz.pinned (.plain (OpenSpec.upto spotSortsSpec)) spotSortsUptoCard

/-- THE SECOND FORM's CARD OF 'snicketlaw10.SpotAlong'. -/
def spotAlongUptoCard : Claim7 := { stood := { row := spotAlongUptoRow, standIns := [], harness := (true, "cc35f9b50fbfce2cf00ff7bd9f84b37f404da8daeef8213665837f35744b7ce6"), looks := false }, kinds := [], alts := [], laidByText := true, laidKinds := [.data, .data, .data], laidTests := true, laidLooks := .later }
def SpotAlongUptoCardSaid : Prop := Claim7.holds Tryz.pinned (.plain (OpenSpec.upto spotAlongSpec)) spotAlongUptoCard
end Rows
end Go.Proofs.YtacicfmalhhceaaGreatDoor
