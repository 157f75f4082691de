/-
  DERIVED. GIVEN WITH THE SEED: THE CARDS: each row of YtmmnekcnaohnbaaDoorRows.lean that lists a variable, with what it lists TIED to the program's text (the seventh form; the later family's looks); each row that meets fmt, with fmt's text TOLD by the authors' own Lean function (tested against real Go, not proved from fmt's source: count such statements apart). THE CARD IS WHAT COUNTS. Prove the row's statement (the work); the ties are given (YtmmnekcnaohnbaaDoorTie.lean); close each card by the builder's one call (the guide's Derived/Test/ToyasCard.lean, 'card_holds'). Laid BY PROGRAM, IN A SANDBOX (cutbox-door.mjs). By AI agents, Wed Nov 11 2026. No macro, syntax, notation, axiom, sorry.
-/
import Derived.Test.YtmmnekcnaohnbaaDoorRows
import GoSem.ClaimSeven
namespace Go.Proofs.YtmmnekcnaohnbaaDoor
namespace Rows

/-- THE TIED CARD OF 'snicketlaw05.SignAdds'. -/
def signAddsCard : Claim7 := { stood := { row := signAddsRow, standIns := [], harness := (true, "56619cdb75cfb9b0e64358ad7b46eceb35d8b67cf95cbefe6cbc6083d64d39d1"), looks := false }, kinds := [], alts := [], laidByText := true, laidKinds := [.data, .data, .data], laidTests := true, laidLooks := .later }
def SignAddsCardSaid : Prop := Claim7.holds Tryd.pinned (.plain (OpenSpec.ofChange signAddsSpec)) signAddsCard

/-- THE TIED CARD OF 'snicketlaw05.SignOver'. -/
def signOverCard : Claim7 := { stood := { row := signOverRow, standIns := [], harness := (true, "56619cdb75cfb9b0e64358ad7b46eceb35d8b67cf95cbefe6cbc6083d64d39d1"), looks := false }, kinds := [], alts := [], laidByText := true, laidKinds := [.data, .data, .data], laidTests := true, laidLooks := .later }
def SignOverCardSaid : Prop := Claim7.holds Tryd.pinned (.plain (OpenSpec.ofChange signOverSpec)) signOverCard

/-- THE TIED CARD OF 'snicketlaw05.SignSmall'. -/
def signSmallCard : Claim7 := { stood := { row := signSmallRow, standIns := [], harness := (true, "56619cdb75cfb9b0e64358ad7b46eceb35d8b67cf95cbefe6cbc6083d64d39d1"), looks := false }, kinds := [], alts := [], laidByText := true, laidKinds := [.data, .data, .data], laidTests := true, laidLooks := .later }
def SignSmallCardSaid : Prop := Claim7.holds Tryd.pinned (.plain (OpenSpec.ofChange signSmallSpec)) signSmallCard

/-- THE TIED CARD OF 'snicketlaw05.SignLaws'. -/
def signLawsCard : Claim7 := { stood := { row := signLawsRow, standIns := [], harness := (true, "56619cdb75cfb9b0e64358ad7b46eceb35d8b67cf95cbefe6cbc6083d64d39d1"), looks := false }, kinds := [], alts := [], laidByText := true, laidKinds := [.data, .data, .data], laidTests := true, laidLooks := .later }
def SignLawsCardSaid : Prop := Claim7.holds Tryd.pinned (.plain (OpenSpec.ofChange signLawsSpec)) signLawsCard

/-- THE SECOND FORM's CARD OF 'snicketlaw05.SignAdds'. -/
def signAddsUptoCard : Claim7 := { stood := { row := signAddsUptoRow, standIns := [], harness := (true, "56619cdb75cfb9b0e64358ad7b46eceb35d8b67cf95cbefe6cbc6083d64d39d1"), looks := false }, kinds := [], alts := [], laidByText := true, laidKinds := [.data, .data, .data], laidTests := true, laidLooks := .later }
def SignAddsUptoCardSaid : Prop := Claim7.holds Tryd.pinned (.plain (OpenSpec.upto signAddsSpec)) signAddsUptoCard

/-- THE SECOND FORM's CARD OF 'snicketlaw05.SignOver'. -/
def signOverUptoCard : Claim7 := { stood := { row := signOverUptoRow, standIns := [], harness := (true, "56619cdb75cfb9b0e64358ad7b46eceb35d8b67cf95cbefe6cbc6083d64d39d1"), looks := false }, kinds := [], alts := [], laidByText := true, laidKinds := [.data, .data, .data], laidTests := true, laidLooks := .later }
def SignOverUptoCardSaid : Prop := Claim7.holds Tryd.pinned (.plain (OpenSpec.upto signOverSpec)) signOverUptoCard

/-- THE SECOND FORM's CARD OF 'snicketlaw05.SignSmall'. -/
def signSmallUptoCard : Claim7 := { stood := { row := signSmallUptoRow, standIns := [], harness := (true, "56619cdb75cfb9b0e64358ad7b46eceb35d8b67cf95cbefe6cbc6083d64d39d1"), looks := false }, kinds := [], alts := [], laidByText := true, laidKinds := [.data, .data, .data], laidTests := true, laidLooks := .later }
def SignSmallUptoCardSaid : Prop := Claim7.holds Tryd.pinned (.plain (OpenSpec.upto signSmallSpec)) signSmallUptoCard

/-- THE SECOND FORM's CARD OF 'snicketlaw05.SignLaws'. -/
def signLawsUptoCard : Claim7 := { stood := { row := signLawsUptoRow, standIns := [], harness := (true, "56619cdb75cfb9b0e64358ad7b46eceb35d8b67cf95cbefe6cbc6083d64d39d1"), looks := false }, kinds := [], alts := [], laidByText := true, laidKinds := [.data, .data, .data], laidTests := true, laidLooks := .later }
def SignLawsUptoCardSaid : Prop := Claim7.holds Tryd.pinned (.plain (OpenSpec.upto signLawsSpec)) signLawsUptoCard
end Rows
end Go.Proofs.YtmmnekcnaohnbaaDoor
