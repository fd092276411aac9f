/- The document's Hand of anything. -/
import Derived.Test.YtafekaonmpkhiaaEe
import Derived.Test.YtafekaonmpkhiaaEf
import Derived.Test.YtafekaonmpkhiaaEg
import Derived.Test.YtafekaonmpkhiaaEh
import Derived.Test.YtafekaonmpkhiaaEi
set_option linter.unusedSimpArgs false
set_option linter.unusedVariables false
set_option maxRecDepth 100000
namespace Go.Proofs.Ytafekaonmpkhiaa
open Go.RowKit Go.Shelf Go.Deep Go.PlainAid Go.Maps Go.WideMaps

theorem hand6 {l : List Hd} {h : Hd} {w : World} {v : Value} (hl : HLs w v l) (hs : Hs h) (hn : l.length < 140737488355328) :
    Calls Try.prog 6 #[v, HV h] w fun e w' => e = .returned (.int .i64 (handC l h)) ∧ Below w.heap.size w w' := by
  by_cases a : 1 ≤ h.act ∧ h.act ≤ 5
  · obtain ⟨x, box, who, to_, cnt, sl⟩ := h
    rcases act_cases a with q | q | q | q | q
    · obtain rfl : x = 1 := q
      exact hand6_1 hl hs hn
    · obtain rfl : x = 2 := q
      exact hand6_2 hl hs hn
    · obtain rfl : x = 3 := q
      exact hand6_3 hl hs hn
    · obtain rfl : x = 4 := q
      exact hand6_4 hl hs hn
    · obtain rfl : x = 5 := q
      exact hand6_5 hl hs hn
  · exact hand6_o a
end Go.Proofs.Ytafekaonmpkhiaa
