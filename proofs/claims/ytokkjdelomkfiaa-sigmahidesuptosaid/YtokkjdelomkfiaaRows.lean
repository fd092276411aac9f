/-
  No cell of these rows narrows 'for every input' (looked for: loops, veiled, ifaces, maps, wideKeys, modest, calm, conditions, laid).
  DERIVED. THE GIVEN ROWS OF THIS SEAT. 3 by the template 'for every input the law returns true; each argument reads behind the call as it read before'; 0 by the template 'total and deterministic' (their statements: YtokkjdelomkfiaaTotals.lean).
  GIVEN WITH THE SEED: the statements are not yours to turn. If you find one false, say at which input.
  Laid BY PROGRAM, IN A SANDBOX (cutbox-rows.mjs): the forced cells as the released guide's own fill.sh prints them over the translation 4f1357a5f3896c65… (all of the seat's roots in one cut). By AI agents, Wed Nov 11 2026. No macro, syntax, notation, axiom, sorry.
-/
import Derived.Test.YtokkjdelomkfiaaChecked
import GoSem.Claim
import GoSem.ClaimJoined
import GoSem.ClaimMapViews
import Derived.JoinedTies
import Derived.KernelRfl
namespace Go.Proofs.Ytokkjdelomkfiaa
/- THE CELL 'sum', in the pinned program and in every row, IS THE sha256 OF THE DUMP (.gsa) THAT YtokkjdelomkfiaaProg.lean LOADS. Nothing in Lean hashes anything: it is a label: what it is worth is what the hold of that sum in a sandbox is worth. -/
noncomputable def Try.pinned : Pinned := { name := "ytokkjdelomkfiaa", sum := "4f1357a5f3896c65c35565dec8f4c2052b2360c6e454bc6bdcc25a82b0d30f80", checked := Try.checked }
namespace Rows
def none {H : Type} : Left H := { results := [], args := [] }

/-- 'hustingslaw5.SigmaExtracts': WHATEVER THE INPUT: true; the input reads as it did. -/
def sigmaExtractsSpec : ChangeSpec := { name := "sigmaExtracts", fn := fun _ => fun
  | [d1, d2, d3, d4, d5] => { results := [.lit (.bool true)], args := [d1, d2, d3, d4, d5] }
  | _ => none }
def sigmaExtractsRow : OpenClaim := { program := "ytokkjdelomkfiaa", sum := "4f1357a5f3896c65c35565dec8f4c2052b2360c6e454bc6bdcc25a82b0d30f80", func := "hustings/hustingslaw5.SigmaExtracts", spec := "sigmaExtracts", inPlace := ["math/bits.Sub64", "math/bits.Add64"], unfollowed := true, recurses := true, apart := false }
def SigmaExtractsSaid : Prop := sigmaExtractsRow.holds Try.pinned (OpenSpec.ofChange sigmaExtractsSpec)

/-- ITS FALSE NEIGHBOUR: 'it returns false'. Refute it at one input. -/
def sigmaExtractsWrong : ChangeSpec := { name := "sigmaExtracts", fn := fun _ => fun
  | [d1, d2, d3, d4, d5] => { results := [.lit (.bool false)], args := [d1, d2, d3, d4, d5] }
  | _ => none }
def SigmaExtractsWrongFalsely : Prop := sigmaExtractsRow.holds Try.pinned (OpenSpec.ofChange sigmaExtractsWrong)

/-- 'hustingslaw5.SigmaHides': WHATEVER THE INPUT: true; the input reads as it did. -/
def sigmaHidesSpec : ChangeSpec := { name := "sigmaHides", fn := fun _ => fun
  | [d1, d2, d3, d4, d5] => { results := [.lit (.bool true)], args := [d1, d2, d3, d4, d5] }
  | _ => none }
def sigmaHidesRow : OpenClaim := { program := "ytokkjdelomkfiaa", sum := "4f1357a5f3896c65c35565dec8f4c2052b2360c6e454bc6bdcc25a82b0d30f80", func := "hustings/hustingslaw5.SigmaHides", spec := "sigmaHides", inPlace := ["math/bits.Sub64", "math/bits.Add64"], unfollowed := true, recurses := true, apart := false }
def SigmaHidesSaid : Prop := sigmaHidesRow.holds Try.pinned (OpenSpec.ofChange sigmaHidesSpec)

/-- ITS FALSE NEIGHBOUR: 'it returns false'. Refute it at one input. -/
def sigmaHidesWrong : ChangeSpec := { name := "sigmaHides", fn := fun _ => fun
  | [d1, d2, d3, d4, d5] => { results := [.lit (.bool false)], args := [d1, d2, d3, d4, d5] }
  | _ => none }
def SigmaHidesWrongFalsely : Prop := sigmaHidesRow.holds Try.pinned (OpenSpec.ofChange sigmaHidesWrong)

/-- 'hustingslaw5.SigmaOnce': WHATEVER THE INPUT: true; the input reads as it did. -/
def sigmaOnceSpec : ChangeSpec := { name := "sigmaOnce", fn := fun _ => fun
  | [d1, d2, d3, d4, d5, d6] => { results := [.lit (.bool true)], args := [d1, d2, d3, d4, d5, d6] }
  | _ => none }
def sigmaOnceRow : OpenClaim := { program := "ytokkjdelomkfiaa", sum := "4f1357a5f3896c65c35565dec8f4c2052b2360c6e454bc6bdcc25a82b0d30f80", func := "hustings/hustingslaw5.SigmaOnce", spec := "sigmaOnce", inPlace := ["math/bits.Sub64", "math/bits.Add64"], unfollowed := true, recurses := true, apart := false }
def SigmaOnceSaid : Prop := sigmaOnceRow.holds Try.pinned (OpenSpec.ofChange sigmaOnceSpec)

/-- ITS FALSE NEIGHBOUR: 'it returns false'. Refute it at one input. -/
def sigmaOnceWrong : ChangeSpec := { name := "sigmaOnce", fn := fun _ => fun
  | [d1, d2, d3, d4, d5, d6] => { results := [.lit (.bool false)], args := [d1, d2, d3, d4, d5, d6] }
  | _ => none }
def SigmaOnceWrongFalsely : Prop := sigmaOnceRow.holds Try.pinned (OpenSpec.ofChange sigmaOnceWrong)

/- THE SECOND FORM. 'bulk': how many values and letters a reading holds, each counted each time it is reached (what is shared counts as often as it is met; a slice's spare places count too). A statement '..UptoSaid' is the law's where the arguments, and the package variables that the reading takes, are together of bulk at most 1048576: NARROWER than '..Said'. Prove '..Said' where nothing that the law and all that it calls make is longer than what came in: it says more and counts as full. Else prove '..UptoSaid'. A law counts once. -/
mutual
def uptoBulk {H : Type} : DataW H → Nat
  | .lit (.string bytes) => bytes.length + 1
  | .lit _ => 1
  | .nil => 1
  | .ptr d => uptoBulk d + 1
  | .slice elems spare => uptoBulkAll elems + uptoBulkAll spare + 1
  | .agg parts => uptoBulkAll parts + 1
  | .iface _ d => uptoBulk d + 1
  | .map entries => uptoBulkEntries entries + 1
  | .held _ => 1
def uptoBulkAll {H : Type} : List (DataW H) → Nat
  | [] => 0
  | d :: r => uptoBulk d + uptoBulkAll r
def uptoBulkEntries {H : Type} : List (Lit × DataW H) → Nat
  | [] => 0
  | x :: r => uptoBulkEntry x + uptoBulkEntries r
def uptoBulkEntry {H : Type} : Lit × DataW H → Nat
  | (.string bytes, d) => bytes.length + uptoBulk d + 1
  | (_, d) => uptoBulk d + 1
 end
def uptoSmall : (H : Type) → List (DataW H) → Bool := fun _ ds => decide (uptoBulkAll ds ≤ 1048576)
def OpenSpec.upto (s : _root_.Go.ChangeSpec) : _root_.Go.OpenSpec := { _root_.Go.OpenSpec.ofChange s with cond := some uptoSmall }

/-- 'hustingslaw5.SigmaExtracts', WHERE WHAT IT READS IS OF BULK AT MOST 1048576: true; the input reads as it did. -/
def sigmaExtractsUptoRow : OpenClaim := { program := "ytokkjdelomkfiaa", sum := "4f1357a5f3896c65c35565dec8f4c2052b2360c6e454bc6bdcc25a82b0d30f80", func := "hustings/hustingslaw5.SigmaExtracts", spec := "sigmaExtracts", inPlace := ["math/bits.Sub64", "math/bits.Add64"], unfollowed := true, recurses := true, apart := false, narrowed := true }
def SigmaExtractsUptoSaid : Prop := sigmaExtractsUptoRow.holds Try.pinned (OpenSpec.upto sigmaExtractsSpec)

/-- 'hustingslaw5.SigmaHides', WHERE WHAT IT READS IS OF BULK AT MOST 1048576: true; the input reads as it did. -/
def sigmaHidesUptoRow : OpenClaim := { program := "ytokkjdelomkfiaa", sum := "4f1357a5f3896c65c35565dec8f4c2052b2360c6e454bc6bdcc25a82b0d30f80", func := "hustings/hustingslaw5.SigmaHides", spec := "sigmaHides", inPlace := ["math/bits.Sub64", "math/bits.Add64"], unfollowed := true, recurses := true, apart := false, narrowed := true }
def SigmaHidesUptoSaid : Prop := sigmaHidesUptoRow.holds Try.pinned (OpenSpec.upto sigmaHidesSpec)

/-- 'hustingslaw5.SigmaOnce', WHERE WHAT IT READS IS OF BULK AT MOST 1048576: true; the input reads as it did. -/
def sigmaOnceUptoRow : OpenClaim := { program := "ytokkjdelomkfiaa", sum := "4f1357a5f3896c65c35565dec8f4c2052b2360c6e454bc6bdcc25a82b0d30f80", func := "hustings/hustingslaw5.SigmaOnce", spec := "sigmaOnce", inPlace := ["math/bits.Sub64", "math/bits.Add64"], unfollowed := true, recurses := true, apart := false, narrowed := true }
def SigmaOnceUptoSaid : Prop := sigmaOnceUptoRow.holds Try.pinned (OpenSpec.upto sigmaOnceSpec)

end Rows
end Go.Proofs.Ytokkjdelomkfiaa
