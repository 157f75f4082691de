/-
  No cell of these rows narrows 'for every input' (looked for: loops, veiled, ifaces, maps, wideKeys, modest, calm, conditions, laid).
  DERIVED. THE GIVEN ROWS OF THIS SEAT. 3 by the template 'for every input the law returns true; each argument reads behind the call as it read before'; 0 by the template 'total and deterministic' (their statements: YtoahcjjndjdljaaTotals.lean).
  GIVEN WITH THE SEED: the statements are not yours to turn. If you find one false, say at which input.
  Laid BY PROGRAM, IN A SANDBOX (cutbox-rows.mjs): the forced cells as the released guide's own fill.sh prints them over the translation ae18f3118659e7e8… (all of the seat's roots in one cut). By AI agents, Wed Nov 11 2026. No macro, syntax, notation, axiom, sorry.
-/
import Derived.Test.YtoahcjjndjdljaaChecked
import GoSem.Claim
import GoSem.ClaimJoined
import GoSem.ClaimMapViews
import Derived.JoinedTies
import Derived.KernelRfl
namespace Go.Proofs.Ytoahcjjndjdljaa
/- THE CELL 'sum', in the pinned program and in every row, IS THE sha256 OF THE DUMP (.gsa) THAT YtoahcjjndjdljaaProg.lean LOADS. Nothing in Lean hashes anything: it is a label: what it is worth is what the hold of that sum in a sandbox is worth. -/
noncomputable def Try.pinned : Pinned := { name := "ytoahcjjndjdljaa", sum := "ae18f3118659e7e8b23795e1b841af33c0af6254e54d3f20674797c38b6008b1", checked := Try.checked }
namespace Rows
def none {H : Type} : Left H := { results := [], args := [] }

/-- 'snicketlaw09.MeetOf': WHATEVER THE INPUT: true; the input reads as it did. -/
def meetOfSpec : ChangeSpec := { name := "meetOf", fn := fun _ => fun
  | [d1, d2] => { results := [.lit (.bool true)], args := [d1, d2] }
  | _ => none }
def meetOfRow : OpenClaim := { program := "ytoahcjjndjdljaa", sum := "ae18f3118659e7e8b23795e1b841af33c0af6254e54d3f20674797c38b6008b1", func := "snicket/snicketlaw09.MeetOf", spec := "meetOf", named := ["math/bits.divideError", "math/bits.overflowError"], apart := false }
def MeetOfSaid : Prop := meetOfRow.holds Try.pinned (OpenSpec.ofChange meetOfSpec)

/-- ITS FALSE NEIGHBOUR: 'it returns false'. Refute it at one input. -/
def meetOfWrong : ChangeSpec := { name := "meetOf", fn := fun _ => fun
  | [d1, d2] => { results := [.lit (.bool false)], args := [d1, d2] }
  | _ => none }
def MeetOfWrongFalsely : Prop := meetOfRow.holds Try.pinned (OpenSpec.ofChange meetOfWrong)

/-- 'snicketlaw09.MeetTurns': WHATEVER THE INPUT: true; the input reads as it did. -/
def meetTurnsSpec : ChangeSpec := { name := "meetTurns", fn := fun _ => fun
  | [d1, d2] => { results := [.lit (.bool true)], args := [d1, d2] }
  | _ => none }
def meetTurnsRow : OpenClaim := { program := "ytoahcjjndjdljaa", sum := "ae18f3118659e7e8b23795e1b841af33c0af6254e54d3f20674797c38b6008b1", func := "snicket/snicketlaw09.MeetTurns", spec := "meetTurns", named := ["math/bits.divideError", "math/bits.overflowError"], apart := false }
def MeetTurnsSaid : Prop := meetTurnsRow.holds Try.pinned (OpenSpec.ofChange meetTurnsSpec)

/-- ITS FALSE NEIGHBOUR: 'it returns false'. Refute it at one input. -/
def meetTurnsWrong : ChangeSpec := { name := "meetTurns", fn := fun _ => fun
  | [d1, d2] => { results := [.lit (.bool false)], args := [d1, d2] }
  | _ => none }
def MeetTurnsWrongFalsely : Prop := meetTurnsRow.holds Try.pinned (OpenSpec.ofChange meetTurnsWrong)

/-- 'snicketlaw09.MeetWhole': WHATEVER THE INPUT: true; the input reads as it did. -/
def meetWholeSpec : ChangeSpec := { name := "meetWhole", fn := fun _ => fun
  | [d1, d2, d3] => { results := [.lit (.bool true)], args := [d1, d2, d3] }
  | _ => none }
def meetWholeRow : OpenClaim := { program := "ytoahcjjndjdljaa", sum := "ae18f3118659e7e8b23795e1b841af33c0af6254e54d3f20674797c38b6008b1", func := "snicket/snicketlaw09.MeetWhole", spec := "meetWhole", named := ["math/bits.divideError", "math/bits.overflowError"], apart := false }
def MeetWholeSaid : Prop := meetWholeRow.holds Try.pinned (OpenSpec.ofChange meetWholeSpec)

/-- ITS FALSE NEIGHBOUR: 'it returns false'. Refute it at one input. -/
def meetWholeWrong : ChangeSpec := { name := "meetWhole", fn := fun _ => fun
  | [d1, d2, d3] => { results := [.lit (.bool false)], args := [d1, d2, d3] }
  | _ => none }
def MeetWholeWrongFalsely : Prop := meetWholeRow.holds Try.pinned (OpenSpec.ofChange meetWholeWrong)

/- THE SECOND FORM. 'bulk': how many values and letters a reading holds, each counted each time it is reached (what is shared counts as often as it is met; a slice's spare places count too). A statement '..UptoSaid' is the law's where the arguments, and the package variables that the reading takes, are together of bulk at most 1048576: NARROWER than '..Said'. Prove '..Said' where nothing that the law and all that it calls make is longer than what came in: it says more and counts as full. Else prove '..UptoSaid'. A law counts once. -/
mutual
def uptoBulk {H : Type} : DataW H → Nat
  | .lit (.string bytes) => bytes.length + 1
  | .lit _ => 1
  | .nil => 1
  | .ptr d => uptoBulk d + 1
  | .slice elems spare => uptoBulkAll elems + uptoBulkAll spare + 1
  | .agg parts => uptoBulkAll parts + 1
  | .iface _ d => uptoBulk d + 1
  | .map entries => uptoBulkEntries entries + 1
  | .held _ => 1
def uptoBulkAll {H : Type} : List (DataW H) → Nat
  | [] => 0
  | d :: r => uptoBulk d + uptoBulkAll r
def uptoBulkEntries {H : Type} : List (Lit × DataW H) → Nat
  | [] => 0
  | x :: r => uptoBulkEntry x + uptoBulkEntries r
def uptoBulkEntry {H : Type} : Lit × DataW H → Nat
  | (.string bytes, d) => bytes.length + uptoBulk d + 1
  | (_, d) => uptoBulk d + 1
 end
def uptoSmall : (H : Type) → List (DataW H) → Bool := fun _ ds => decide (uptoBulkAll ds ≤ 1048576)
def OpenSpec.upto (s : _root_.Go.ChangeSpec) : _root_.Go.OpenSpec := { _root_.Go.OpenSpec.ofChange s with cond := some uptoSmall }

/-- 'snicketlaw09.MeetOf', WHERE WHAT IT READS IS OF BULK AT MOST 1048576: true; the input reads as it did. -/
def meetOfUptoRow : OpenClaim := { program := "ytoahcjjndjdljaa", sum := "ae18f3118659e7e8b23795e1b841af33c0af6254e54d3f20674797c38b6008b1", func := "snicket/snicketlaw09.MeetOf", spec := "meetOf", named := ["math/bits.divideError", "math/bits.overflowError"], apart := false, narrowed := true }
def MeetOfUptoSaid : Prop := meetOfUptoRow.holds Try.pinned (OpenSpec.upto meetOfSpec)

/-- 'snicketlaw09.MeetTurns', WHERE WHAT IT READS IS OF BULK AT MOST 1048576: true; the input reads as it did. -/
def meetTurnsUptoRow : OpenClaim := { program := "ytoahcjjndjdljaa", sum := "ae18f3118659e7e8b23795e1b841af33c0af6254e54d3f20674797c38b6008b1", func := "snicket/snicketlaw09.MeetTurns", spec := "meetTurns", named := ["math/bits.divideError", "math/bits.overflowError"], apart := false, narrowed := true }
def MeetTurnsUptoSaid : Prop := meetTurnsUptoRow.holds Try.pinned (OpenSpec.upto meetTurnsSpec)

/-- 'snicketlaw09.MeetWhole', WHERE WHAT IT READS IS OF BULK AT MOST 1048576: true; the input reads as it did. -/
def meetWholeUptoRow : OpenClaim := { program := "ytoahcjjndjdljaa", sum := "ae18f3118659e7e8b23795e1b841af33c0af6254e54d3f20674797c38b6008b1", func := "snicket/snicketlaw09.MeetWhole", spec := "meetWhole", named := ["math/bits.divideError", "math/bits.overflowError"], apart := false, narrowed := true }
def MeetWholeUptoSaid : Prop := meetWholeUptoRow.holds Try.pinned (OpenSpec.upto meetWholeSpec)

end Rows
end Go.Proofs.Ytoahcjjndjdljaa
