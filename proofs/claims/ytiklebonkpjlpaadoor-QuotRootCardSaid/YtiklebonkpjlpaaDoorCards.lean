/-
  DERIVED. GIVEN WITH THE SEED: THE CARDS: each row of YtiklebonkpjlpaaDoorRows.lean that lists a variable, with what it lists TIED to the program's text (the seventh form; the later family's looks); each row that meets fmt, with fmt's text TOLD by the authors' own Lean function (tested against real Go, not proved from fmt's source: count such statements apart). THE CARD IS WHAT COUNTS. Prove the row's statement (the work); the ties are given (YtiklebonkpjlpaaDoorTie.lean); close each card by the builder's one call (the guide's Derived/Test/ToyasCard.lean, 'card_holds'). Laid BY PROGRAM, IN A SANDBOX (cutbox-door.mjs). By AI agents, Wed Nov 11 2026. No macro, syntax, notation, axiom, sorry.
-/
import Derived.Test.YtiklebonkpjlpaaDoorRows
import GoSem.ClaimSeven
namespace Go.Proofs.YtiklebonkpjlpaaDoor
namespace Rows

/-- THE TIED CARD OF 'snicketlaw04.QuotOver'. -/
def quotOverCard : Claim7 := { stood := { row := quotOverRow, standIns := [], harness := (true, "4ee4e2f42a09a0e6997f337b54c8a4095a4a747bec526ad36a846929b871544b"), looks := false }, kinds := [], alts := [], laidByText := true, laidKinds := [.data, .data, .data], laidTests := true, laidLooks := .later }
def QuotOverCardSaid : Prop := Claim7.holds Tryd.pinned (.plain (OpenSpec.ofChange quotOverSpec)) quotOverCard

/-- THE TIED CARD OF 'snicketlaw04.QuotGcd'. -/
def quotGcdCard : Claim7 := { stood := { row := quotGcdRow, standIns := [], harness := (true, "4ee4e2f42a09a0e6997f337b54c8a4095a4a747bec526ad36a846929b871544b"), looks := false }, kinds := [], alts := [], laidByText := true, laidKinds := [.data, .data, .data], laidTests := true, laidLooks := .later }
def QuotGcdCardSaid : Prop := Claim7.holds Tryd.pinned (.plain (OpenSpec.ofChange quotGcdSpec)) quotGcdCard

/-- THE TIED CARD OF 'snicketlaw04.QuotRoot'. -/
def quotRootCard : Claim7 := { stood := { row := quotRootRow, standIns := [], harness := (true, "4ee4e2f42a09a0e6997f337b54c8a4095a4a747bec526ad36a846929b871544b"), looks := false }, kinds := [], alts := [], laidByText := true, laidKinds := [.data, .data, .data], laidTests := true, laidLooks := .later }
def QuotRootCardSaid : Prop := Claim7.holds Tryd.pinned (.plain (OpenSpec.ofChange quotRootSpec)) quotRootCard

/-- THE SECOND FORM's CARD OF 'snicketlaw04.QuotOver'. -/
def quotOverUptoCard : Claim7 := { stood := { row := quotOverUptoRow, standIns := [], harness := (true, "4ee4e2f42a09a0e6997f337b54c8a4095a4a747bec526ad36a846929b871544b"), looks := false }, kinds := [], alts := [], laidByText := true, laidKinds := [.data, .data, .data], laidTests := true, laidLooks := .later }
def QuotOverUptoCardSaid : Prop := Claim7.holds Tryd.pinned (.plain (OpenSpec.upto quotOverSpec)) quotOverUptoCard

/-- THE SECOND FORM's CARD OF 'snicketlaw04.QuotGcd'. -/
def quotGcdUptoCard : Claim7 := { stood := { row := quotGcdUptoRow, standIns := [], harness := (true, "4ee4e2f42a09a0e6997f337b54c8a4095a4a747bec526ad36a846929b871544b"), looks := false }, kinds := [], alts := [], laidByText := true, laidKinds := [.data, .data, .data], laidTests := true, laidLooks := .later }
def QuotGcdUptoCardSaid : Prop := Claim7.holds Tryd.pinned (.plain (OpenSpec.upto quotGcdSpec)) quotGcdUptoCard

/-- THE SECOND FORM's CARD OF 'snicketlaw04.QuotRoot'. -/
def quotRootUptoCard : Claim7 := { stood := { row := quotRootUptoRow, standIns := [], harness := (true, "4ee4e2f42a09a0e6997f337b54c8a4095a4a747bec526ad36a846929b871544b"), looks := false }, kinds := [], alts := [], laidByText := true, laidKinds := [.data, .data, .data], laidTests := true, laidLooks := .later }
def QuotRootUptoCardSaid : Prop := Claim7.holds Tryd.pinned (.plain (OpenSpec.upto quotRootSpec)) quotRootUptoCard
end Rows
end Go.Proofs.YtiklebonkpjlpaaDoor
