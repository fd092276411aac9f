/- The reference's Read. -/
import Derived.Test.YthdffjboaicopaaBe
set_option linter.unusedSimpArgs false
set_option linter.unusedVariables false
namespace Go.Proofs.Ythdffjboaicopaa
open Go.RowKit Go.Deep Go.PlainAid

theorem bt_list (s : ByteArray) (k : Nat) (h : k < s.size) : bt s k = ((s.data.toList[k]'h).toNat : Int) := by unfold bt; rw [dif_pos h]; rfl
end Go.Proofs.Ythdffjboaicopaa
