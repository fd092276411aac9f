/-
  No cell of these rows narrows 'for every input' (looked for: loops, veiled, ifaces, maps, wideKeys, modest, calm, conditions, laid).
  DERIVED. THE GIVEN ROWS OF THIS SEAT. 3 by the template 'for every input the law returns true; each argument reads behind the call as it read before'; 0 by the template 'total and deterministic' (their statements: YtckfdpiohkggaabTotals.lean).
  GIVEN WITH THE SEED: the statements are not yours to turn. If you find one false, say at which input.
  Laid BY PROGRAM, IN A SANDBOX (cutbox-rows.mjs): the forced cells as the released guide's own fill.sh prints them over the translation e431ab44a898cbba… (all of the seat's roots in one cut). By AI agents, Wed Nov 11 2026. No macro, syntax, notation, axiom, sorry.
-/
import Derived.Test.YtckfdpiohkggaabChecked
import GoSem.Claim
import GoSem.ClaimJoined
import GoSem.ClaimMapViews
import Derived.JoinedTies
import Derived.KernelRfl
namespace Go.Proofs.Ytckfdpiohkggaab
/- THE CELL 'sum', in the pinned program and in every row, IS THE sha256 OF THE DUMP (.gsa) THAT YtckfdpiohkggaabProg.lean LOADS. Nothing in Lean hashes anything: it is a label: what it is worth is what the hold of that sum in a sandbox is worth. -/
noncomputable def Try.pinned : Pinned := { name := "ytckfdpiohkggaab", sum := "e431ab44a898cbba707d953028ba3c20eadc69fcddb4b36c8a903eca72ad0c1f", checked := Try.checked }
namespace Rows
def none {H : Type} : Left H := { results := [], args := [] }

/-- 'hustingslaw3.GroupField': WHATEVER THE INPUT: true; the input reads as it did. -/
def groupFieldSpec : ChangeSpec := { name := "groupField", fn := fun _ => fun
  | [d1, d2, d3, d4] => { results := [.lit (.bool true)], args := [d1, d2, d3, d4] }
  | _ => none }
def groupFieldRow : OpenClaim := { program := "ytckfdpiohkggaab", sum := "e431ab44a898cbba707d953028ba3c20eadc69fcddb4b36c8a903eca72ad0c1f", func := "hustings/hustingslaw3.GroupField", spec := "groupField", inPlace := ["math/bits.Sub64", "math/bits.Add64"], unfollowed := true, recurses := true, plainKeys := false, apart := false }
def GroupFieldSaid : Prop := groupFieldRow.holds Try.pinned (OpenSpec.ofChange groupFieldSpec)

/-- ITS FALSE NEIGHBOUR: 'it returns false'. Refute it at one input. -/
def groupFieldWrong : ChangeSpec := { name := "groupField", fn := fun _ => fun
  | [d1, d2, d3, d4] => { results := [.lit (.bool false)], args := [d1, d2, d3, d4] }
  | _ => none }
def GroupFieldWrongFalsely : Prop := groupFieldRow.holds Try.pinned (OpenSpec.ofChange groupFieldWrong)

/-- 'hustingslaw3.GroupLaw': WHATEVER THE INPUT: true; the input reads as it did. -/
def groupLawSpec : ChangeSpec := { name := "groupLaw", fn := fun _ => fun
  | [d1, d2, d3, d4, d5, d6] => { results := [.lit (.bool true)], args := [d1, d2, d3, d4, d5, d6] }
  | _ => none }
def groupLawRow : OpenClaim := { program := "ytckfdpiohkggaab", sum := "e431ab44a898cbba707d953028ba3c20eadc69fcddb4b36c8a903eca72ad0c1f", func := "hustings/hustingslaw3.GroupLaw", spec := "groupLaw", inPlace := ["math/bits.Sub64", "math/bits.Add64"], unfollowed := true, recurses := true, plainKeys := false, apart := false }
def GroupLawSaid : Prop := groupLawRow.holds Try.pinned (OpenSpec.ofChange groupLawSpec)

/-- ITS FALSE NEIGHBOUR: 'it returns false'. Refute it at one input. -/
def groupLawWrong : ChangeSpec := { name := "groupLaw", fn := fun _ => fun
  | [d1, d2, d3, d4, d5, d6] => { results := [.lit (.bool false)], args := [d1, d2, d3, d4, d5, d6] }
  | _ => none }
def GroupLawWrongFalsely : Prop := groupLawRow.holds Try.pinned (OpenSpec.ofChange groupLawWrong)

/-- 'hustingslaw3.GroupFinds': WHATEVER THE INPUT: true; the input reads as it did. -/
def groupFindsSpec : ChangeSpec := { name := "groupFinds", fn := fun _ => fun
  | [d1, d2, d3, d4] => { results := [.lit (.bool true)], args := [d1, d2, d3, d4] }
  | _ => none }
def groupFindsRow : OpenClaim := { program := "ytckfdpiohkggaab", sum := "e431ab44a898cbba707d953028ba3c20eadc69fcddb4b36c8a903eca72ad0c1f", func := "hustings/hustingslaw3.GroupFinds", spec := "groupFinds", inPlace := ["math/bits.Add64", "math/bits.Sub64"], unfollowed := true, recurses := true, plainKeys := false, apart := false }
def GroupFindsSaid : Prop := groupFindsRow.holds Try.pinned (OpenSpec.ofChange groupFindsSpec)

/-- ITS FALSE NEIGHBOUR: 'it returns false'. Refute it at one input. -/
def groupFindsWrong : ChangeSpec := { name := "groupFinds", fn := fun _ => fun
  | [d1, d2, d3, d4] => { results := [.lit (.bool false)], args := [d1, d2, d3, d4] }
  | _ => none }
def GroupFindsWrongFalsely : Prop := groupFindsRow.holds Try.pinned (OpenSpec.ofChange groupFindsWrong)

/- THE SECOND FORM. 'bulk': how many values and letters a reading holds, each counted each time it is reached (what is shared counts as often as it is met; a slice's spare places count too). A statement '..UptoSaid' is the law's where the arguments, and the package variables that the reading takes, are together of bulk at most 1048576: NARROWER than '..Said'. Prove '..Said' where nothing that the law and all that it calls make is longer than what came in: it says more and counts as full. Else prove '..UptoSaid'. A law counts once. -/
mutual
def uptoBulk {H : Type} : DataW H → Nat
  | .lit (.string bytes) => bytes.length + 1
  | .lit _ => 1
  | .nil => 1
  | .ptr d => uptoBulk d + 1
  | .slice elems spare => uptoBulkAll elems + uptoBulkAll spare + 1
  | .agg parts => uptoBulkAll parts + 1
  | .iface _ d => uptoBulk d + 1
  | .map entries => uptoBulkEntries entries + 1
  | .held _ => 1
def uptoBulkAll {H : Type} : List (DataW H) → Nat
  | [] => 0
  | d :: r => uptoBulk d + uptoBulkAll r
def uptoBulkEntries {H : Type} : List (Lit × DataW H) → Nat
  | [] => 0
  | x :: r => uptoBulkEntry x + uptoBulkEntries r
def uptoBulkEntry {H : Type} : Lit × DataW H → Nat
  | (.string bytes, d) => bytes.length + uptoBulk d + 1
  | (_, d) => uptoBulk d + 1
 end
def uptoSmall : (H : Type) → List (DataW H) → Bool := fun _ ds => decide (uptoBulkAll ds ≤ 1048576)
def OpenSpec.upto (s : _root_.Go.ChangeSpec) : _root_.Go.OpenSpec := { _root_.Go.OpenSpec.ofChange s with cond := some uptoSmall }

/-- 'hustingslaw3.GroupField', WHERE WHAT IT READS IS OF BULK AT MOST 1048576: true; the input reads as it did. -/
def groupFieldUptoRow : OpenClaim := { program := "ytckfdpiohkggaab", sum := "e431ab44a898cbba707d953028ba3c20eadc69fcddb4b36c8a903eca72ad0c1f", func := "hustings/hustingslaw3.GroupField", spec := "groupField", inPlace := ["math/bits.Sub64", "math/bits.Add64"], unfollowed := true, recurses := true, plainKeys := false, apart := false, narrowed := true }
def GroupFieldUptoSaid : Prop := groupFieldUptoRow.holds Try.pinned (OpenSpec.upto groupFieldSpec)

/-- 'hustingslaw3.GroupLaw', WHERE WHAT IT READS IS OF BULK AT MOST 1048576: true; the input reads as it did. -/
def groupLawUptoRow : OpenClaim := { program := "ytckfdpiohkggaab", sum := "e431ab44a898cbba707d953028ba3c20eadc69fcddb4b36c8a903eca72ad0c1f", func := "hustings/hustingslaw3.GroupLaw", spec := "groupLaw", inPlace := ["math/bits.Sub64", "math/bits.Add64"], unfollowed := true, recurses := true, plainKeys := false, apart := false, narrowed := true }
def GroupLawUptoSaid : Prop := groupLawUptoRow.holds Try.pinned (OpenSpec.upto groupLawSpec)

/-- 'hustingslaw3.GroupFinds', WHERE WHAT IT READS IS OF BULK AT MOST 1048576: true; the input reads as it did. -/
def groupFindsUptoRow : OpenClaim := { program := "ytckfdpiohkggaab", sum := "e431ab44a898cbba707d953028ba3c20eadc69fcddb4b36c8a903eca72ad0c1f", func := "hustings/hustingslaw3.GroupFinds", spec := "groupFinds", inPlace := ["math/bits.Add64", "math/bits.Sub64"], unfollowed := true, recurses := true, plainKeys := false, apart := false, narrowed := true }
def GroupFindsUptoSaid : Prop := groupFindsUptoRow.holds Try.pinned (OpenSpec.upto groupFindsSpec)

end Rows
end Go.Proofs.Ytckfdpiohkggaab
