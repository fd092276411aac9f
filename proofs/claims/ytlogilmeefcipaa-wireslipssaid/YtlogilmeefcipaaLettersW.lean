/- The walk of the law WireLetters. -/
import Derived.Test.YtlogilmeefcipaaRefFrom
set_option linter.unusedSimpArgs false
set_option linter.unusedVariables false
set_option maxRecDepth 100000
namespace Go.Proofs.Ytlogilmeefcipaa
open Go.RowKit Go.Deep Go.PlainAid

/-- What Letters tells of a text. -/
def lettersS (s : ByteArray) : ByteArray × Nat := if s.size ≤ 64 then (FB (valsC s), 0) else (⟨#[]⟩, 3)
theorem letters_any (w : World) (s : ByteArray) : Calls Try.prog 10 #[.string s] w fun e w' => e = .returned (.tuple #[.string (lettersS s).1, .int .i64 ((lettersS s).2 : Int)]) ∧ Below w.heap.size w w' := by
  unfold lettersS
  split
  · exact letters_ok w s (by assumption)
  · exact letters_long w s (by omega)
theorem refLetters_any (w : World) (s : ByteArray) : Calls Try.prog 9 #[.string s] w fun e w' => e = .returned (.tuple #[.string (lettersS s).1, .int .i64 ((lettersS s).2 : Int)]) ∧ Below w.heap.size w w' := by
  unfold lettersS
  split
  · exact refLetters_ok w s (by assumption)
  · exact refLetters_long w s (by omega)
set_option maxHeartbeats 1000000 in
theorem wireLetters_walk (b s : ByteArray) (hs : s.size ≤ 1100000) (w : World) :
    Calls Try.prog 4 #[.string b, .string s] w fun e w' => e = .returned (.bool true) ∧ Below w.heap.size w w' := by
  have C9 : Hid (∀ W, Calls Try.prog 9 #[.string b] W fun e w' => e = .returned (.tuple #[.string (lettersS b).1, .int .i64 ((lettersS b).2 : Int)]) ∧ Below W.heap.size W w') := fun W => refLetters_any W b
  have C10 : Hid (∀ W, Calls Try.prog 10 #[.string b] W fun e w' => e = .returned (.tuple #[.string (lettersS b).1, .int .i64 ((lettersS b).2 : Int)]) ∧ Below W.heap.size W w') := fun W => letters_any W b
  have C11 : Hid (∀ W, Calls Try.prog 11 #[.string s] W fun e w' => e = .returned (.tuple #[.string (fromS s).1, .int .i64 ((fromS s).2 : Int)]) ∧ Below W.heap.size W w') := fun W => refFrom_any W s hs
  have C12 : Hid (∀ W, Calls Try.prog 12 #[.string s] W fun e w' => e = .returned (.tuple #[.string (fromS s).1, .int .i64 ((fromS s).2 : Int)]) ∧ Below W.heap.size W w') := fun W => from_any W s hs
  generalize (lettersS b).1 = x1 at *
  generalize ((lettersS b).2 : Int) = x2 at *
  generalize (fromS s).1 = y1 at *
  generalize ((fromS s).2 : Int) = y2 at *
  go_enter Try.func4, Try.ntmps4
  go_wp2_with fail
  refine (C9.out w).mono ?_
  rintro e W1 ⟨rfl, hb⟩
  have B : Hid (Below w.heap.size w W1) := hb
  clear hb
  go_wp2_with fail
  refine (C10.out W1).mono ?_
  rintro e W2 ⟨rfl, hb⟩
  replace B : Hid (Below w.heap.size w W2) := B.out.trans (hb.mono B.out.size)
  clear hb
  go_wp2_with fail
  refine (C11.out W2).mono ?_
  rintro e W3 ⟨rfl, hb⟩
  replace B : Hid (Below w.heap.size w W3) := B.out.trans (hb.mono B.out.size)
  clear hb
  go_wp2_with fail
  refine (C12.out W3).mono ?_
  rintro e W4 ⟨rfl, hb⟩
  replace B : Hid (Below w.heap.size w W4) := B.out.trans (hb.mono B.out.size)
  clear hb
  go_wp2_with fail
  go_ret
  exact ⟨by simp, B.out⟩
end Go.Proofs.Ytlogilmeefcipaa
