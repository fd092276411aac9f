/- The law BoardCovers, walked. -/
import Derived.Test.YtejdhcpmmjijjaaAs
set_option linter.unusedSimpArgs false
set_option linter.unusedVariables false
set_option maxRecDepth 100000
namespace Go.Proofs.Ytejdhcpmmjijjaa
open Go.RowKit Go.Deep Go.PlainAid

set_option maxHeartbeats 2000000 in
theorem covers_no (w : World) (lo hi : Int) (h : ¬ (0 ≤ lo ∧ lo ≤ hi ∧ hi ≤ 1048576)) : Calls Try.prog 3 #[.int .i64 lo, .int .i64 hi] w fun e w' => e = .returned (.bool true) ∧ Below w.heap.size w w' := by
  have H4 : Hid (∀ V, Calls Try.prog 4 #[.int .i64 lo, .int .i64 hi] V fun e w' => e = .returned (.tuple #[.slice none 0 0, .int .i64 4]) ∧ Below V.heap.size V w') := fun V => cover4_no V lo hi h
  have H5 : Hid (∀ V, Calls Try.prog 5 #[.int .i64 lo, .int .i64 hi] V fun e w' => e = .returned (.tuple #[.slice none 0 0, .int .i64 4]) ∧ Below V.heap.size V w') := fun V => cover5_no V lo hi h
  clear h
  go_enter Try.func3, Try.ntmps3
  go_wp2_with (first
    | (go_at_call 4; refine (H4.out _).mono ?_; rintro e w1 ⟨rfl, hB1⟩; have B1 : Hid (Below w.heap.size w w1) := hB1; clear hB1)
    | (go_at_call 5; refine (H5.out _).mono ?_; rintro e w2 ⟨rfl, hB2⟩; have B2 : Hid (Below w.heap.size w w2) := B1.out.trans (hB2.mono B1.out.size); clear hB2))
  go_loopg [34] 0 (fun gk v wr => v = .int .i64 0 ∧ wr = w2)
  case atStart => exact ⟨rfl, rfl⟩
  case round =>
    obtain ⟨rfl, rfl⟩ := hrel
    go_wp2_with fail
    go_ret
    exact ⟨rfl, B2.out⟩
set_option maxHeartbeats 2000000 in
theorem covers_yes (w : World) (lo hi : Nat) (h1 : lo ≤ hi) (h2 : hi ≤ 1048576) : Calls Try.prog 3 #[.int .i64 (lo : Int), .int .i64 (hi : Int)] w fun e w' => e = .returned (.bool true) ∧ Below w.heap.size w w' := by
  have H4 : Hid (∀ V, Calls Try.prog 4 #[.int .i64 (lo : Int), .int .i64 (hi : Int)] V fun e w' => (∃ a c, e = .returned (.tuple #[.slice a (cover lo hi).length c, .int .i64 0]) ∧ SPL w' a (cover lo hi)) ∧ Below V.heap.size V w') := fun V => cover4_yes V lo hi h1 h2
  have H5 : Hid (∀ V, Calls Try.prog 5 #[.int .i64 (lo : Int), .int .i64 (hi : Int)] V fun e w' => (∃ a c, e = .returned (.tuple #[.slice a (cover lo hi).length c, .int .i64 0]) ∧ SPL w' a (cover lo hi)) ∧ Below V.heap.size V w') := fun V => cover5_yes V lo hi h1 h2
  have hlen := cover_len lo hi h2
  generalize cover lo hi = L at *
  clear h1 h2
  go_enter Try.func3, Try.ntmps3
  go_wp2_with (first
    | (go_at_call 4; refine (H4.out _).mono ?_; rintro e w1 ⟨⟨a1, c1, rfl, hs1⟩, hB1⟩; have B1 : Hid (Below w.heap.size w w1) := hB1; have S1 : Hid (SPL w1 a1 L) := hs1; clear hB1 hs1)
    | (go_at_call 5; refine (H5.out _).mono ?_; rintro e w2 ⟨⟨a2, c2, rfl, hs2⟩, hB2⟩; have B2 : Hid (Below w.heap.size w w2) := B1.out.trans (hB2.mono B1.out.size); replace S1 : Hid (SPL w2 a1 L) := S1.out.of_below hB2; have S2 : Hid (SPL w2 a2 L) := hs2; clear hB2 hs2))
  go_loopg [34, 9] (L.length) (fun gk v34 v9 wr => ∃ i : Nat, i + gk = L.length ∧ v34 = .int .i64 (i : Int) ∧ Below w2.heap.size w2 wr)
  case atStart => exact ⟨0, by omega, rfl, Below.refl _ _⟩
  case round =>
    obtain ⟨i, hig, rfl, hB⟩ := hrel
    have B : Hid (Below w2.heap.size w2 wr) := hB
    clear hB
    by_cases hi : i < L.length
    · have il : (i : Int) < (L.length : Int) := by omega
      obtain ⟨b1, o1, rfl, q1, q2⟩ := (S1.out.of_below B.out).two i hi
      obtain ⟨b2, o2, rfl, q3, q4⟩ := (S2.out.of_below B.out).two i hi
      generalize L[i] = p at *
      obtain ⟨p1, p2⟩ := p
      rw [Nat.mul_comm 2 i] at q1 q2 q3 q4
      dsimp only at q1 q2 q3 q4
      go_wp2_with fail
      go_quiet (fail)
      have BQ : Hid (Below w2.heap.size w2 (World.drewN wr nq)) := B.out.trans ⟨rfl, rfl, rfl, Nat.le_refl _, fun _ _ => rfl⟩
      clear q1 q2 q3 q4 H4 H5
      generalize World.drewN wr nq = wq at *
      go_wp2_with fail
      go_roundg (gk - 1)
      case measure => omega
      case rel => exact ⟨i + 1, by omega, by go_num, BQ.out⟩
    · have il : ¬ (i : Int) < (L.length : Int) := by omega
      go_wp2_with fail
      go_ret
      exact ⟨rfl, B2.out.trans (B.out.mono B2.out.size)⟩
/-- The law, whatever comes in. -/
theorem covers_walk (lo hi : Int) (w : World) : Calls Try.prog 3 #[.int .i64 lo, .int .i64 hi] w fun e w' => e = .returned (.bool true) ∧ Below w.heap.size w w' := by
  by_cases h : 0 ≤ lo ∧ lo ≤ hi ∧ hi ≤ 1048576
  · obtain ⟨h1, h2, h3⟩ := h
    obtain ⟨a, rfl⟩ := Int.eq_ofNat_of_zero_le h1
    obtain ⟨b, rfl⟩ := Int.eq_ofNat_of_zero_le (Int.le_trans h1 h2)
    exact covers_yes w a b (by omega) (by omega)
  · exact covers_no w lo hi h
end Go.Proofs.Ytejdhcpmmjijjaa
