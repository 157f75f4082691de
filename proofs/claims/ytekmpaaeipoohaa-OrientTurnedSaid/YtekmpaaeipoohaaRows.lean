/-
  No cell of these rows narrows 'for every input' (looked for: loops, veiled, ifaces, maps, wideKeys, modest, calm, conditions, laid).
  DERIVED. THE GIVEN ROWS OF THIS SEAT. 4 by the template 'for every input the law returns true; each argument reads behind the call as it read before'; 0 by the template 'total and deterministic' (their statements: YtekmpaaeipoohaaTotals.lean).
  GIVEN WITH THE SEED: the statements are not yours to turn. If you find one false, say at which input.
  Laid BY PROGRAM, IN A SANDBOX (cutbox-rows.mjs): the forced cells as the released guide's own fill.sh prints them over the translation 275921fe1bfcd9d2… (all of the seat's roots in one cut). By AI agents, Wed Nov 11 2026. No macro, syntax, notation, axiom, sorry.
-/
import Derived.Test.YtekmpaaeipoohaaChecked
import GoSem.Claim
import GoSem.ClaimJoined
import GoSem.ClaimMapViews
import Derived.JoinedTies
import Derived.KernelRfl
namespace Go.Proofs.Ytekmpaaeipoohaa
/- THE CELL 'sum', in the pinned program and in every row, IS THE sha256 OF THE DUMP (.gsa) THAT YtekmpaaeipoohaaProg.lean LOADS. Nothing in Lean hashes anything: it is a label: what it is worth is what the hold of that sum in a sandbox is worth. -/
noncomputable def Try.pinned : Pinned := { name := "ytekmpaaeipoohaa", sum := "275921fe1bfcd9d2f3ceaa29daae98af637335a8228642fa5e67b5b165ecd75d", checked := Try.checked }
namespace Rows
def none {H : Type} : Left H := { results := [], args := [] }

/-- 'snicketlaw08.OrientSides': WHATEVER THE INPUT: true; the input reads as it did. -/
def orientSidesSpec : ChangeSpec := { name := "orientSides", fn := fun _ => fun
  | [d1, d2, d3] => { results := [.lit (.bool true)], args := [d1, d2, d3] }
  | _ => none }
def orientSidesRow : OpenClaim := { program := "ytekmpaaeipoohaa", sum := "275921fe1bfcd9d2f3ceaa29daae98af637335a8228642fa5e67b5b165ecd75d", func := "snicket/snicketlaw08.OrientSides", spec := "orientSides", apart := false }
def OrientSidesSaid : Prop := orientSidesRow.holds Try.pinned (OpenSpec.ofChange orientSidesSpec)

/-- ITS FALSE NEIGHBOUR: 'it returns false'. Refute it at one input. -/
def orientSidesWrong : ChangeSpec := { name := "orientSides", fn := fun _ => fun
  | [d1, d2, d3] => { results := [.lit (.bool false)], args := [d1, d2, d3] }
  | _ => none }
def OrientSidesWrongFalsely : Prop := orientSidesRow.holds Try.pinned (OpenSpec.ofChange orientSidesWrong)

/-- 'snicketlaw08.OrientTouch': WHATEVER THE INPUT: true; the input reads as it did. -/
def orientTouchSpec : ChangeSpec := { name := "orientTouch", fn := fun _ => fun
  | [d1, d2] => { results := [.lit (.bool true)], args := [d1, d2] }
  | _ => none }
def orientTouchRow : OpenClaim := { program := "ytekmpaaeipoohaa", sum := "275921fe1bfcd9d2f3ceaa29daae98af637335a8228642fa5e67b5b165ecd75d", func := "snicket/snicketlaw08.OrientTouch", spec := "orientTouch", apart := false }
def OrientTouchSaid : Prop := orientTouchRow.holds Try.pinned (OpenSpec.ofChange orientTouchSpec)

/-- ITS FALSE NEIGHBOUR: 'it returns false'. Refute it at one input. -/
def orientTouchWrong : ChangeSpec := { name := "orientTouch", fn := fun _ => fun
  | [d1, d2] => { results := [.lit (.bool false)], args := [d1, d2] }
  | _ => none }
def OrientTouchWrongFalsely : Prop := orientTouchRow.holds Try.pinned (OpenSpec.ofChange orientTouchWrong)

/-- 'snicketlaw08.OrientOn': WHATEVER THE INPUT: true; the input reads as it did. -/
def orientOnSpec : ChangeSpec := { name := "orientOn", fn := fun _ => fun
  | [d1, d2, d3] => { results := [.lit (.bool true)], args := [d1, d2, d3] }
  | _ => none }
def orientOnRow : OpenClaim := { program := "ytekmpaaeipoohaa", sum := "275921fe1bfcd9d2f3ceaa29daae98af637335a8228642fa5e67b5b165ecd75d", func := "snicket/snicketlaw08.OrientOn", spec := "orientOn", apart := false }
def OrientOnSaid : Prop := orientOnRow.holds Try.pinned (OpenSpec.ofChange orientOnSpec)

/-- ITS FALSE NEIGHBOUR: 'it returns false'. Refute it at one input. -/
def orientOnWrong : ChangeSpec := { name := "orientOn", fn := fun _ => fun
  | [d1, d2, d3] => { results := [.lit (.bool false)], args := [d1, d2, d3] }
  | _ => none }
def OrientOnWrongFalsely : Prop := orientOnRow.holds Try.pinned (OpenSpec.ofChange orientOnWrong)

/-- 'snicketlaw08.OrientTurned': WHATEVER THE INPUT: true; the input reads as it did. -/
def orientTurnedSpec : ChangeSpec := { name := "orientTurned", fn := fun _ => fun
  | [d1, d2, d3] => { results := [.lit (.bool true)], args := [d1, d2, d3] }
  | _ => none }
def orientTurnedRow : OpenClaim := { program := "ytekmpaaeipoohaa", sum := "275921fe1bfcd9d2f3ceaa29daae98af637335a8228642fa5e67b5b165ecd75d", func := "snicket/snicketlaw08.OrientTurned", spec := "orientTurned", unfollowed := true, recurses := true, apart := false }
def OrientTurnedSaid : Prop := orientTurnedRow.holds Try.pinned (OpenSpec.ofChange orientTurnedSpec)

/-- ITS FALSE NEIGHBOUR: 'it returns false'. Refute it at one input. -/
def orientTurnedWrong : ChangeSpec := { name := "orientTurned", fn := fun _ => fun
  | [d1, d2, d3] => { results := [.lit (.bool false)], args := [d1, d2, d3] }
  | _ => none }
def OrientTurnedWrongFalsely : Prop := orientTurnedRow.holds Try.pinned (OpenSpec.ofChange orientTurnedWrong)

/- THE SECOND FORM. 'bulk': how many values and letters a reading holds, each counted each time it is reached (what is shared counts as often as it is met; a slice's spare places count too). A statement '..UptoSaid' is the law's where the arguments, and the package variables that the reading takes, are together of bulk at most 1048576: NARROWER than '..Said'. Prove '..Said' where nothing that the law and all that it calls make is longer than what came in: it says more and counts as full. Else prove '..UptoSaid'. A law counts once. -/
mutual
def uptoBulk {H : Type} : DataW H → Nat
  | .lit (.string bytes) => bytes.length + 1
  | .lit _ => 1
  | .nil => 1
  | .ptr d => uptoBulk d + 1
  | .slice elems spare => uptoBulkAll elems + uptoBulkAll spare + 1
  | .agg parts => uptoBulkAll parts + 1
  | .iface _ d => uptoBulk d + 1
  | .map entries => uptoBulkEntries entries + 1
  | .held _ => 1
def uptoBulkAll {H : Type} : List (DataW H) → Nat
  | [] => 0
  | d :: r => uptoBulk d + uptoBulkAll r
def uptoBulkEntries {H : Type} : List (Lit × DataW H) → Nat
  | [] => 0
  | x :: r => uptoBulkEntry x + uptoBulkEntries r
def uptoBulkEntry {H : Type} : Lit × DataW H → Nat
  | (.string bytes, d) => bytes.length + uptoBulk d + 1
  | (_, d) => uptoBulk d + 1
 end
def uptoSmall : (H : Type) → List (DataW H) → Bool := fun _ ds => decide (uptoBulkAll ds ≤ 1048576)
def OpenSpec.upto (s : _root_.Go.ChangeSpec) : _root_.Go.OpenSpec := { _root_.Go.OpenSpec.ofChange s with cond := some uptoSmall }

/-- 'snicketlaw08.OrientSides', WHERE WHAT IT READS IS OF BULK AT MOST 1048576: true; the input reads as it did. -/
def orientSidesUptoRow : OpenClaim := { program := "ytekmpaaeipoohaa", sum := "275921fe1bfcd9d2f3ceaa29daae98af637335a8228642fa5e67b5b165ecd75d", func := "snicket/snicketlaw08.OrientSides", spec := "orientSides", apart := false, narrowed := true }
def OrientSidesUptoSaid : Prop := orientSidesUptoRow.holds Try.pinned (OpenSpec.upto orientSidesSpec)

/-- 'snicketlaw08.OrientTouch', WHERE WHAT IT READS IS OF BULK AT MOST 1048576: true; the input reads as it did. -/
def orientTouchUptoRow : OpenClaim := { program := "ytekmpaaeipoohaa", sum := "275921fe1bfcd9d2f3ceaa29daae98af637335a8228642fa5e67b5b165ecd75d", func := "snicket/snicketlaw08.OrientTouch", spec := "orientTouch", apart := false, narrowed := true }
def OrientTouchUptoSaid : Prop := orientTouchUptoRow.holds Try.pinned (OpenSpec.upto orientTouchSpec)

/-- 'snicketlaw08.OrientOn', WHERE WHAT IT READS IS OF BULK AT MOST 1048576: true; the input reads as it did. -/
def orientOnUptoRow : OpenClaim := { program := "ytekmpaaeipoohaa", sum := "275921fe1bfcd9d2f3ceaa29daae98af637335a8228642fa5e67b5b165ecd75d", func := "snicket/snicketlaw08.OrientOn", spec := "orientOn", apart := false, narrowed := true }
def OrientOnUptoSaid : Prop := orientOnUptoRow.holds Try.pinned (OpenSpec.upto orientOnSpec)

/-- 'snicketlaw08.OrientTurned', WHERE WHAT IT READS IS OF BULK AT MOST 1048576: true; the input reads as it did. -/
def orientTurnedUptoRow : OpenClaim := { program := "ytekmpaaeipoohaa", sum := "275921fe1bfcd9d2f3ceaa29daae98af637335a8228642fa5e67b5b165ecd75d", func := "snicket/snicketlaw08.OrientTurned", spec := "orientTurned", unfollowed := true, recurses := true, apart := false, narrowed := true }
def OrientTurnedUptoSaid : Prop := orientTurnedUptoRow.holds Try.pinned (OpenSpec.upto orientTurnedSpec)

end Rows
end Go.Proofs.Ytekmpaaeipoohaa
