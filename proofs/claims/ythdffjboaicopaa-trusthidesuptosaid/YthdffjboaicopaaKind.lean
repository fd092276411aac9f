/- The reference's kinds. -/
import Derived.Test.YthdffjboaicopaaAid
set_option linter.unusedSimpArgs false
set_option linter.unusedVariables false
namespace Go.Proofs.Ythdffjboaicopaa
open Go.RowKit Go.Deep Go.PlainAid

theorem len_lt {n k : Nat} (h : n < 65536 ^ k) : (dg 65536 n).length ≤ k := dg_len_le b16 k n h
end Go.Proofs.Ythdffjboaicopaa
