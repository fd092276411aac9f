/-
  No cell of these rows narrows 'for every input' (looked for: loops, veiled, ifaces, maps, wideKeys, modest, calm, conditions, laid).
  DERIVED. THE GIVEN ROWS OF THIS SEAT. 2 by the template 'for every input the law returns true; each argument reads behind the call as it read before'; 0 by the template 'total and deterministic' (their statements: YtafekaonmpkhiaaTotals.lean).
  GIVEN WITH THE SEED: the statements are not yours to turn. If you find one false, say at which input.
  Laid BY PROGRAM, IN A SANDBOX (cutbox-rows.mjs): the forced cells as the released guide's own fill.sh prints them over the translation 1a03379e994584ee… (all of the seat's roots in one cut). By AI agents, Wed Nov 11 2026. No macro, syntax, notation, axiom, sorry.
-/
import Derived.Test.YtafekaonmpkhiaaChecked
import GoSem.Claim
import GoSem.ClaimJoined
import GoSem.ClaimMapViews
import Derived.JoinedTies
import Derived.KernelRfl
namespace Go.Proofs.Ytafekaonmpkhiaa
/- THE CELL 'sum', in the pinned program and in every row, IS THE sha256 OF THE DUMP (.gsa) THAT YtafekaonmpkhiaaProg.lean LOADS. Nothing in Lean hashes anything: it is a label: what it is worth is what the hold of that sum in a sandbox is worth. -/
noncomputable def Try.pinned : Pinned := { name := "ytafekaonmpkhiaa", sum := "1a03379e994584eeaa4ae0f2aaf5795ce0fb01825dde4e3ef76876f7aefe2fb8", checked := Try.checked }
namespace Rows
def none {H : Type} : Left H := { results := [], args := [] }

/-- 'hustingslaw14.AuditHands': WHATEVER THE INPUT: true; the input reads as it did. -/
def auditHandsSpec : ChangeSpec := { name := "auditHands", fn := fun _ => fun
  | [d] => { results := [.lit (.bool true)], args := [d] }
  | _ => none }
def auditHandsRow : OpenClaim := { program := "ytafekaonmpkhiaa", sum := "1a03379e994584eeaa4ae0f2aaf5795ce0fb01825dde4e3ef76876f7aefe2fb8", func := "hustings/hustingslaw14.AuditHands", spec := "auditHands", inPlace := ["internal/bytealg.abigen_runtime_cmpstring"], unfollowed := true, recurses := true, apart := false }
def AuditHandsSaid : Prop := auditHandsRow.holds Try.pinned (OpenSpec.ofChange auditHandsSpec)

/-- ITS FALSE NEIGHBOUR: 'it returns false'. Refute it at one input. -/
def auditHandsWrong : ChangeSpec := { name := "auditHands", fn := fun _ => fun
  | [d] => { results := [.lit (.bool false)], args := [d] }
  | _ => none }
def AuditHandsWrongFalsely : Prop := auditHandsRow.holds Try.pinned (OpenSpec.ofChange auditHandsWrong)

/-- 'hustingslaw14.AuditWhole': WHATEVER THE INPUT: true; the input reads as it did. -/
def auditWholeSpec : ChangeSpec := { name := "auditWhole", fn := fun _ => fun
  | [d] => { results := [.lit (.bool true)], args := [d] }
  | _ => none }
def auditWholeRow : OpenClaim := { program := "ytafekaonmpkhiaa", sum := "1a03379e994584eeaa4ae0f2aaf5795ce0fb01825dde4e3ef76876f7aefe2fb8", func := "hustings/hustingslaw14.AuditWhole", spec := "auditWhole", inPlace := ["internal/bytealg.abigen_runtime_cmpstring"], unfollowed := true, recurses := true, apart := false }
def AuditWholeSaid : Prop := auditWholeRow.holds Try.pinned (OpenSpec.ofChange auditWholeSpec)

/-- ITS FALSE NEIGHBOUR: 'it returns false'. Refute it at one input. -/
def auditWholeWrong : ChangeSpec := { name := "auditWhole", fn := fun _ => fun
  | [d] => { results := [.lit (.bool false)], args := [d] }
  | _ => none }
def AuditWholeWrongFalsely : Prop := auditWholeRow.holds Try.pinned (OpenSpec.ofChange auditWholeWrong)

/- THE SECOND FORM. 'bulk': how many values and letters a reading holds, each counted each time it is reached (what is shared counts as often as it is met; a slice's spare places count too). A statement '..UptoSaid' is the law's where the arguments, and the package variables that the reading takes, are together of bulk at most 1048576: NARROWER than '..Said'. Prove '..Said' where nothing that the law and all that it calls make is longer than what came in: it says more and counts as full. Else prove '..UptoSaid'. A law counts once. -/
mutual
def uptoBulk {H : Type} : DataW H → Nat
  | .lit (.string bytes) => bytes.length + 1
  | .lit _ => 1
  | .nil => 1
  | .ptr d => uptoBulk d + 1
  | .slice elems spare => uptoBulkAll elems + uptoBulkAll spare + 1
  | .agg parts => uptoBulkAll parts + 1
  | .iface _ d => uptoBulk d + 1
  | .map entries => uptoBulkEntries entries + 1
  | .held _ => 1
def uptoBulkAll {H : Type} : List (DataW H) → Nat
  | [] => 0
  | d :: r => uptoBulk d + uptoBulkAll r
def uptoBulkEntries {H : Type} : List (Lit × DataW H) → Nat
  | [] => 0
  | x :: r => uptoBulkEntry x + uptoBulkEntries r
def uptoBulkEntry {H : Type} : Lit × DataW H → Nat
  | (.string bytes, d) => bytes.length + uptoBulk d + 1
  | (_, d) => uptoBulk d + 1
 end
def uptoSmall : (H : Type) → List (DataW H) → Bool := fun _ ds => decide (uptoBulkAll ds ≤ 1048576)
def OpenSpec.upto (s : _root_.Go.ChangeSpec) : _root_.Go.OpenSpec := { _root_.Go.OpenSpec.ofChange s with cond := some uptoSmall }

/-- 'hustingslaw14.AuditHands', WHERE WHAT IT READS IS OF BULK AT MOST 1048576: true; the input reads as it did. -/
def auditHandsUptoRow : OpenClaim := { program := "ytafekaonmpkhiaa", sum := "1a03379e994584eeaa4ae0f2aaf5795ce0fb01825dde4e3ef76876f7aefe2fb8", func := "hustings/hustingslaw14.AuditHands", spec := "auditHands", inPlace := ["internal/bytealg.abigen_runtime_cmpstring"], unfollowed := true, recurses := true, apart := false, narrowed := true }
def AuditHandsUptoSaid : Prop := auditHandsUptoRow.holds Try.pinned (OpenSpec.upto auditHandsSpec)

/-- 'hustingslaw14.AuditWhole', WHERE WHAT IT READS IS OF BULK AT MOST 1048576: true; the input reads as it did. -/
def auditWholeUptoRow : OpenClaim := { program := "ytafekaonmpkhiaa", sum := "1a03379e994584eeaa4ae0f2aaf5795ce0fb01825dde4e3ef76876f7aefe2fb8", func := "hustings/hustingslaw14.AuditWhole", spec := "auditWhole", inPlace := ["internal/bytealg.abigen_runtime_cmpstring"], unfollowed := true, recurses := true, apart := false, narrowed := true }
def AuditWholeUptoSaid : Prop := auditWholeUptoRow.holds Try.pinned (OpenSpec.upto auditWholeSpec)

end Rows
end Go.Proofs.Ytafekaonmpkhiaa
