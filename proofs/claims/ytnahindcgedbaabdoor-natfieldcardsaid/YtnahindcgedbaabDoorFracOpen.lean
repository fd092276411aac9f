/- A fraction that came in: its two texts; the way back. -/
import Derived.Test.YtnahindcgedbaabDoorFrame
import Derived.Lib.SmallJoins
set_option linter.unusedSimpArgs false
set_option linter.unusedVariables false
namespace Go.Proofs.YtnahindcgedbaabDoor
open Go.ChangeShapes Go.WideShapes Go.ChangeAt Go.RowKit Go.ChangeMaps Go.Deep Go.Joins
variable {H : Type} {enc : TypeId × Value → H} {w : World} {base : Nat} {sp : Nat → Bool} {held : Bool}

set_option maxRecDepth 100000 in
theorem open_frac {r : Reach} {b0 : Nat} {v : Value} {d : DataW H} {p : List MemPlace} (hv : Value.okWide Tryd.prog w r b0 23 v) (h : DataW.Trod enc Tryd.prog w base sp held 23 v d p) :
    ∃ s1 s2 : ByteArray, v = .agg #[.string s1, .string s2] ∧ d = .agg [.lit (.string s1.data.toList), .lit (.string s2.data.toList)] ∧ p = [] ∧ s1.size ≤ maxLen ∧ s2.size ≤ maxLen := by
  obtain ⟨v0, v1, y0, y1, n, rfl, rfl, rfl, h0, h1⟩ := open_agg2 Tryd.underlying23 (by kernel_rfl) (by kernel_rfl) hv h
  obtain ⟨s1, hs1, rfl, m1⟩ := DataW.trod_string Tryd.underlying9 h0
  obtain ⟨s2, hs2, rfl, m2⟩ := DataW.trod_string Tryd.underlying9 h1
  simp only [List.cons.injEq, and_true] at hs1 hs2
  subst hs1; subst hs2
  exact ⟨s1, s2, rfl, rfl, rfl, m1, m2⟩
set_option maxRecDepth 100000 in
theorem shut_frac {s1 s2 : ByteArray} (m1 : s1.size ≤ maxLen) (m2 : s2.size ≤ maxLen) :
    DataW.Trod enc Tryd.prog w base sp held 23 (.agg #[.string s1, .string s2]) (.agg [.lit (.string s1.data.toList), .lit (.string s2.data.toList)]) [] :=
  shut_agg2 Tryd.underlying23 (by kernel_rfl) (by kernel_rfl) (shut_string_cell Tryd.underlying9 m1) (shut_string_cell Tryd.underlying9 m2)
set_option maxRecDepth 100000 in
theorem sized_frac {ts : List TypeId} {ds : List (DataW H)} (h : (DataW.weightsEach Tryd.prog ts ds).all (· ≤ reachBytes) = true) {j : Nat} {b1 b2 : List UInt8} (ht : ts[j]? = some 23) (hd : ds[j]? = some (.agg [.lit (.string b1), .lit (.string b2)])) :
    b1.length ≤ reachBytes ∧ b2.length ≤ reachBytes := by
  have e1 := List.all_eq_true.1 h _ (DataW.weights_mem_each ht hd b1.length (by simp [DataW.weights, Tryd.underlying23, DataW.weightsEach]))
  have e2 := List.all_eq_true.1 h _ (DataW.weights_mem_each ht hd b2.length (by simp [DataW.weights, Tryd.underlying23, DataW.weightsEach]))
  exact ⟨by simpa using e1, by simpa using e2⟩
end Go.Proofs.YtnahindcgedbaabDoor
