/-
  No cell of these rows narrows 'for every input' (looked for: loops, veiled, ifaces, maps, wideKeys, modest, calm, conditions, laid).
  DERIVED. THE GIVEN ROWS OF THIS SEAT. 2 by the template 'for every input the law returns true; each argument reads behind the call as it read before'; 0 by the template 'total and deterministic' (their statements: YtfbceknafmkipaaGreatTotals.lean).
  GIVEN WITH THE SEED: the statements are not yours to turn. If you find one false, say at which input.
  Laid BY PROGRAM, IN A SANDBOX (cutbox-rows.mjs): the forced cells as the released guide's own fill.sh prints them over the translation 99a261263431b4c2… (all of the seat's roots in one cut). By AI agents, Wed Nov 11 2026. No macro, syntax, notation, axiom, sorry.
-/
import Derived.Test.YtfbceknafmkipaaGreatChecked
import GoSem.Claim
import GoSem.ClaimJoined
import GoSem.ClaimMapViews
import Derived.JoinedTies
import Derived.KernelRfl
namespace Go.Proofs.YtfbceknafmkipaaGreat
/- THE CELL 'sum', in the pinned program and in every row, IS THE sha256 OF THE DUMP (.gsa) THAT YtfbceknafmkipaaGreatProg.lean LOADS. Nothing in Lean hashes anything: it is a label: what it is worth is what the hold of that sum in a sandbox is worth. -/
noncomputable def Tryz.pinned : Pinned := { name := "ytfbceknafmkipaagreat", sum := "99a261263431b4c237c1a2f57c70b9201a701f9279ae3125d34e11b9fe29ba56", checked := Tryz.checked }
namespace Rows
def none {H : Type} : Left H := { results := [], args := [] }

/-- 'hustingslaw5.SigmaFirsts': WHATEVER THE INPUT: true; the input reads as it did. -/
def sigmaFirstsSpec : ChangeSpec := { name := "sigmaFirsts", fn := fun _ => fun
  | [d1, d2, d3, d4] => { results := [.lit (.bool true)], args := [d1, d2, d3, d4] }
  | _ => none }
def sigmaFirstsRow : OpenClaim := { program := "ytfbceknafmkipaagreat", sum := "99a261263431b4c237c1a2f57c70b9201a701f9279ae3125d34e11b9fe29ba56", func := "hustings/hustingslaw5.SigmaFirsts", spec := "sigmaFirsts", inPlace := ["math/bits.Sub64", "math/bits.Add64"], unfollowed := true, recurses := true, apart := false }
def SigmaFirstsSaid : Prop := sigmaFirstsRow.holds Tryz.pinned (OpenSpec.ofChange sigmaFirstsSpec)

/-- ITS FALSE NEIGHBOUR: 'it returns false'. Refute it at one input. -/
def sigmaFirstsWrong : ChangeSpec := { name := "sigmaFirsts", fn := fun _ => fun
  | [d1, d2, d3, d4] => { results := [.lit (.bool false)], args := [d1, d2, d3, d4] }
  | _ => none }
def SigmaFirstsWrongFalsely : Prop := sigmaFirstsRow.holds Tryz.pinned (OpenSpec.ofChange sigmaFirstsWrong)

/-- 'hustingslaw5.SigmaSound': WHATEVER THE INPUT: true; the input reads as it did. -/
def sigmaSoundSpec : ChangeSpec := { name := "sigmaSound", fn := fun _ => fun
  | [d1, d2, d3, d4] => { results := [.lit (.bool true)], args := [d1, d2, d3, d4] }
  | _ => none }
def sigmaSoundRow : OpenClaim := { program := "ytfbceknafmkipaagreat", sum := "99a261263431b4c237c1a2f57c70b9201a701f9279ae3125d34e11b9fe29ba56", func := "hustings/hustingslaw5.SigmaSound", spec := "sigmaSound", inPlace := ["math/bits.Sub64", "math/bits.Add64"], unfollowed := true, recurses := true, apart := false }
def SigmaSoundSaid : Prop := sigmaSoundRow.holds Tryz.pinned (OpenSpec.ofChange sigmaSoundSpec)

/-- ITS FALSE NEIGHBOUR: 'it returns false'. Refute it at one input. -/
def sigmaSoundWrong : ChangeSpec := { name := "sigmaSound", fn := fun _ => fun
  | [d1, d2, d3, d4] => { results := [.lit (.bool false)], args := [d1, d2, d3, d4] }
  | _ => none }
def SigmaSoundWrongFalsely : Prop := sigmaSoundRow.holds Tryz.pinned (OpenSpec.ofChange sigmaSoundWrong)

/- THE SECOND FORM. 'bulk': how many values and letters a reading holds, each counted each time it is reached (what is shared counts as often as it is met; a slice's spare places count too). A statement '..UptoSaid' is the law's where the arguments, and the package variables that the reading takes, are together of bulk at most 1048576: NARROWER than '..Said'. Prove '..Said' where nothing that the law and all that it calls make is longer than what came in: it says more and counts as full. Else prove '..UptoSaid'. A law counts once. -/
mutual
def uptoBulk {H : Type} : DataW H → Nat
  | .lit (.string bytes) => bytes.length + 1
  | .lit _ => 1
  | .nil => 1
  | .ptr d => uptoBulk d + 1
  | .slice elems spare => uptoBulkAll elems + uptoBulkAll spare + 1
  | .agg parts => uptoBulkAll parts + 1
  | .iface _ d => uptoBulk d + 1
  | .map entries => uptoBulkEntries entries + 1
  | .held _ => 1
def uptoBulkAll {H : Type} : List (DataW H) → Nat
  | [] => 0
  | d :: r => uptoBulk d + uptoBulkAll r
def uptoBulkEntries {H : Type} : List (Lit × DataW H) → Nat
  | [] => 0
  | x :: r => uptoBulkEntry x + uptoBulkEntries r
def uptoBulkEntry {H : Type} : Lit × DataW H → Nat
  | (.string bytes, d) => bytes.length + uptoBulk d + 1
  | (_, d) => uptoBulk d + 1
 end
def uptoSmall : (H : Type) → List (DataW H) → Bool := fun _ ds => decide (uptoBulkAll ds ≤ 1048576)
def OpenSpec.upto (s : _root_.Go.ChangeSpec) : _root_.Go.OpenSpec := { _root_.Go.OpenSpec.ofChange s with cond := some uptoSmall }

/-- 'hustingslaw5.SigmaFirsts', WHERE WHAT IT READS IS OF BULK AT MOST 1048576: true; the input reads as it did. -/
def sigmaFirstsUptoRow : OpenClaim := { program := "ytfbceknafmkipaagreat", sum := "99a261263431b4c237c1a2f57c70b9201a701f9279ae3125d34e11b9fe29ba56", func := "hustings/hustingslaw5.SigmaFirsts", spec := "sigmaFirsts", inPlace := ["math/bits.Sub64", "math/bits.Add64"], unfollowed := true, recurses := true, apart := false, narrowed := true }
def SigmaFirstsUptoSaid : Prop := sigmaFirstsUptoRow.holds Tryz.pinned (OpenSpec.upto sigmaFirstsSpec)

/-- 'hustingslaw5.SigmaSound', WHERE WHAT IT READS IS OF BULK AT MOST 1048576: true; the input reads as it did. -/
def sigmaSoundUptoRow : OpenClaim := { program := "ytfbceknafmkipaagreat", sum := "99a261263431b4c237c1a2f57c70b9201a701f9279ae3125d34e11b9fe29ba56", func := "hustings/hustingslaw5.SigmaSound", spec := "sigmaSound", inPlace := ["math/bits.Sub64", "math/bits.Add64"], unfollowed := true, recurses := true, apart := false, narrowed := true }
def SigmaSoundUptoSaid : Prop := sigmaSoundUptoRow.holds Tryz.pinned (OpenSpec.upto sigmaSoundSpec)

end Rows
end Go.Proofs.YtfbceknafmkipaaGreat
