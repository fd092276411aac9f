/- The walk of the law FoldTags. -/
import Derived.Test.YtalagjmjpoacmaaDoorParts
set_option linter.unusedSimpArgs false
set_option linter.unusedVariables false
namespace Go.Proofs.YtalagjmjpoacmaaDoor
open Go.RowKit

set_option maxRecDepth 100000 in
set_option maxHeartbeats 400000 in
theorem foldTags_walk (label : ByteArray) (a : Option Addr) (cap : Nat) (ps : List ByteArray) (w : World) (hps : SAt w a ps) (hl : ps.length < 4611686018427387904)
    (hll : label.size < 4611686018427387904) (hsz : ∀ i (h : i < ps.length), ps[i].size < 4611686018427387904) (hn : (partsL (label :: ps)).length < 4611686018427387904) (hT : Tabs w) (hS : Starts w) :
    Calls Tryd.prog 7 #[.string label, .slice a ps.length cap] w fun e w' => e = .returned (.bool true) ∧ Below w.heap.size w w' := by
  go_enter Tryd.func7, Tryd.ntmps7
  go_wp2_with fail
  refine (tagFace_any label a cap ps w hps hl hll hsz (by omega) hT hS).mono ?_
  rintro e X ⟨rfl, hbX⟩
  have HR : Hid (Calls Tryd.prog 20 #[.string label, .slice a ps.length cap] X fun e w' => e = .returned (.string ⟨(digL (hK 0) (partsL (label :: ps))).toArray⟩) ∧ Below X.heap.size X w') := refTag_any label a cap ps X (hps.of_below hbX hps.lt) hl hll hsz hn
  have HB : Hid (Below w.heap.size w X) := hbX
  clear hbX hps hsz hn
  generalize digL (hK 0) (partsL (label :: ps)) = D at *
  go_wp2_with fail
  refine HR.out.mono ?_
  rintro e Z ⟨rfl, hbZ⟩
  have HB2 : Hid (Below w.heap.size w Z) := HB.out.trans (hbZ.mono HB.out.size)
  clear hbZ
  go_wp2_with fail
  go_ret
  exact ⟨by simp, HB2.out⟩
end Go.Proofs.YtalagjmjpoacmaaDoor
