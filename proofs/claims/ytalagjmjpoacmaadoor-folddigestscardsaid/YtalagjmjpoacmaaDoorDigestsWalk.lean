/- The walk of the law FoldDigests. -/
import Derived.Test.YtalagjmjpoacmaaDoorRefKeyed
set_option linter.unusedSimpArgs false
set_option linter.unusedVariables false
namespace Go.Proofs.YtalagjmjpoacmaaDoor
open Go.RowKit

set_option maxRecDepth 100000 in
set_option maxHeartbeats 1000000 in
theorem foldDigests_walk (key t : ByteArray) (hk : key.size < 4611686018427387904) (ht : t.size < 4611686018427387904) (w : World) (hT : Tabs w) (hS : Starts w) :
    Calls Tryd.prog 6 #[.string key, .string t] w fun e w' => e = .returned (.bool true) ∧ Below w.heap.size w w' := by
  have hT0 : Hid (2 < w.heap.size) := hT.size
  go_enter Tryd.func6, Tryd.ntmps6
  go_wp2_with fail
  refine (digest_any t (by omega) w hT hS).mono ?_
  rintro e X1 ⟨rfl, hb1⟩
  have HB1 : Hid (Below w.heap.size w X1) := hb1
  have HD : Hid (∀ w, Calls Tryd.prog 16 #[.string t] w fun e w' => e = .returned (.string ⟨(digL (hK 0) t.data.toList).toArray⟩) ∧ Below w.heap.size w w') := fun w => refDigest_any t ht w
  clear hb1
  generalize digL (hK 0) t.data.toList = D at *
  go_wp2_with fail
  refine (HD.out X1).mono ?_
  rintro e X2 ⟨rfl, hb2⟩
  have HB2 : Hid (Below w.heap.size w X2) := HB1.out.trans (hb2.mono HB1.out.size)
  clear hb2
  have hT2 : Hid (Tabs X2) := hT.of_below HB2.out hT0.out
  have hS2 : Hid (Starts X2) := hS.of_below HB2.out hT0.out
  by_cases hl : key.size ≤ 32
  · go_wp2_with fail
    refine (keyed_any key t hl (by omega) X2 hT2.out hS2.out).mono ?_
    rintro e X3 ⟨rfl, hb3⟩
    have HB3 : Hid (Below w.heap.size w X3) := HB2.out.trans (hb3.mono HB2.out.size)
    have HK : Hid (∀ w, Calls Tryd.prog 18 #[.string key, .string t] w fun e w' => e = .returned (.tuple #[.string ⟨(digL (hK key.size) (keyT key.data.toList ++ t.data.toList)).toArray⟩, .bool true]) ∧ Below w.heap.size w w') := fun w => refKeyed_any key t hl ht w
    clear hb3
    generalize digL (hK key.size) (keyT key.data.toList ++ t.data.toList) = E at *
    go_wp2_with fail
    refine (HK.out X3).mono ?_
    rintro e X4 ⟨rfl, hb4⟩
    have HB4 : Hid (Below w.heap.size w X4) := HB3.out.trans (hb4.mono HB3.out.size)
    clear hb4
    go_wp2_with fail
    go_ret
    exact ⟨by simp, HB4.out⟩
  · go_wp2_with fail
    refine (keyed_long key t (by omega) (by omega) X2).mono ?_
    rintro e X3 ⟨rfl, rfl⟩
    go_wp2_with fail
    refine (refKeyed_long key t (by omega) (by omega) X3).mono ?_
    rintro e X4 ⟨rfl, rfl⟩
    go_wp2_with fail
    go_ret
    exact ⟨by simp, HB2.out⟩
end Go.Proofs.YtalagjmjpoacmaaDoor
