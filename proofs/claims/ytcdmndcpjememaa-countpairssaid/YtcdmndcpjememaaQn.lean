/- Pairs, Paths and Smith: the walk of the law. -/
import Derived.Test.YtcdmndcpjememaaQm
set_option linter.unusedSimpArgs false
set_option linter.unusedVariables false
set_option maxRecDepth 100000
namespace Go.Proofs.Ytcdmndcpjememaa
open Go.RowKit Go.Deep Go.PlainAid

set_option maxHeartbeats 8000000 in
theorem law3 {w : World} {nm : ByteArray} {ca a b : Option Addr} {n cc c d : Nat} {r s m : Int} {L K : List (List Int)} (hs : LL w a L) (ht : LL w b K) :
    Calls Try.prog 3 #[CV nm ca n cc r s m, .slice a L.length c, .slice b K.length d] w fun e w' => e = .returned (.bool true) ∧ Below w.heap.size w w' := by
  obtain ⟨z, hz⟩ := both_pairs (nm := nm) (ca := ca) (n := n) (cc := cc) (r := r) (s := s) (m := m) (c := c) hs
  have HZ : Hid (∀ W, Below w.heap.size w W → Calls Try.prog 4 #[.agg #[.string nm, .slice ca n cc, .int .i64 r, .int .i64 s, .int .i64 m], .slice a L.length c] W fun e w1 => (∃ v1, e = .returned (.tuple #[v1, .int .i64 z]) ∧
      Hid (∀ W', Below w1.heap.size w1 W' → Calls Try.prog 5 #[.agg #[.string nm, .slice ca n cc, .int .i64 r, .int .i64 s, .int .i64 m], .slice a L.length c] W' fun e w2 => (∃ v2, e = .returned (.tuple #[v2, .int .i64 z]) ∧ Hid (PairL w2 v1 v2)) ∧ Below W'.heap.size W' w2)) ∧ Below W.heap.size W w1) := hz
  have HP : Hid (∀ W, Below w.heap.size w W → Calls Try.prog 7 #[.slice b K.length d] W fun e w1 => (∃ v1, e = .returned (.tuple #[v1, .int .i64 (wpC K)]) ∧
      Hid (∀ W', Below w1.heap.size w1 W' → Calls Try.prog 8 #[.slice b K.length d] W' fun e w2 => (∃ v2, e = .returned (.tuple #[v2, .int .i64 (wpC K)]) ∧ Hid (PairL w2 v1 v2)) ∧ Below W'.heap.size W' w2)) ∧ Below W.heap.size W w1) := both_paths ht
  have HS : Hid (∀ W, Below w.heap.size w W → Calls Try.prog 9 #[.slice b K.length d] W fun e w1 => (∃ v1, e = .returned (.tuple #[v1, .int .i64 (wpC K)]) ∧
      Hid (∀ W', Below w1.heap.size w1 W' → Calls Try.prog 10 #[.slice b K.length d] W' fun e w2 => (∃ v2, e = .returned (.tuple #[v2, .int .i64 (wpC K)]) ∧ Hid (PairI w2 v1 v2)) ∧ Below W'.heap.size W' w2)) ∧ Below W.heap.size W w1) := both_smith ht
  clear hz hs ht
  generalize wpC K = y at *
  generalize L.length = NL at *
  generalize K.length = NK at *
  unfold CV
  have B : Hid (Below w.heap.size w (w.alloc (.cells #[.string nm, .slice ca n cc, .int .i64 r, .int .i64 s, .int .i64 m] 24))) := (Below.refl _ _).alloc (Nat.le_refl _) _
  have I0 : Hid (IHolds (w.alloc (.cells #[.string nm, .slice ca n cc, .int .i64 r, .int .i64 s, .int .i64 m] 24)) w.heap.size 24 [.string nm, .slice ca n cc, .int .i64 r, .int .i64 s, .int .i64 m]) := IHolds.new w 24 _
  go_enter Try.func3, Try.ntmps3
  go_wp2_with (go_at_call 4; refine (HZ.out _ B.out).mono ?_)
  rintro e w1 ⟨⟨v1, rfl, H2⟩, hB⟩
  have B1 : Hid (Below w.heap.size w w1) := B.out.trans (hB.mono B.out.size)
  have I1 : Hid (IHolds w1 w.heap.size 24 [.string nm, .slice ca n cc, .int .i64 r, .int .i64 s, .int .i64 m]) := I0.out.of_below hB
  have R1 : Hid (Below w1.heap.size w1 w1) := Below.refl _ _
  obtain ⟨k0, k1, k2, k3, k4⟩ := five I1.out
  clear hB HZ I0
  go_wp2_with (go_at_call 5; refine (H2.out _ R1.out).mono ?_)
  rintro e w2 ⟨⟨v2, rfl, H3⟩, hB⟩
  have B2 : Hid (Below w.heap.size w w2) := B1.out.trans (hB.mono B1.out.size)
  have R2 : Hid (Below w2.heap.size w2 w2) := Below.refl _ _
  clear hB H2 I1 k0 k1 k2 k3 k4
  go_wp2_with (go_at_call 6; refine (H3.out _ R2.out).mono ?_)
  rintro e w3 ⟨rfl, hB⟩
  have B3 : Hid (Below w.heap.size w w3) := B2.out.trans (hB.mono B2.out.size)
  clear hB H3
  go_wp2_with (go_at_call 7; refine (HP.out _ B3.out).mono ?_)
  rintro e w4 ⟨⟨v4, rfl, H5⟩, hB⟩
  have B4 : Hid (Below w.heap.size w w4) := B3.out.trans (hB.mono B3.out.size)
  have R4 : Hid (Below w4.heap.size w4 w4) := Below.refl _ _
  clear hB HP
  go_wp2_with (go_at_call 8; refine (H5.out _ R4.out).mono ?_)
  rintro e w5 ⟨⟨v5, rfl, H6⟩, hB⟩
  have B5 : Hid (Below w.heap.size w w5) := B4.out.trans (hB.mono B4.out.size)
  have R5 : Hid (Below w5.heap.size w5 w5) := Below.refl _ _
  clear hB H5
  go_wp2_with (go_at_call 6; refine (H6.out _ R5.out).mono ?_)
  rintro e w6 ⟨rfl, hB⟩
  have B6 : Hid (Below w.heap.size w w6) := B5.out.trans (hB.mono B5.out.size)
  clear hB H6
  go_wp2_with (go_at_call 9; refine (HS.out _ B6.out).mono ?_)
  rintro e w7 ⟨⟨v7, rfl, H8⟩, hB⟩
  have B7 : Hid (Below w.heap.size w w7) := B6.out.trans (hB.mono B6.out.size)
  have R7 : Hid (Below w7.heap.size w7 w7) := Below.refl _ _
  clear hB HS
  go_wp2_with (go_at_call 10; refine (H8.out _ R7.out).mono ?_)
  rintro e w8 ⟨⟨v8, rfl, H9⟩, hB⟩
  have B8 : Hid (Below w.heap.size w w8) := B7.out.trans (hB.mono B7.out.size)
  have R8 : Hid (Below w8.heap.size w8 w8) := Below.refl _ _
  clear hB H8
  go_wp2_with (go_at_call 11; refine (H9.out _ R8.out).mono ?_)
  rintro e w9 ⟨rfl, hB⟩
  have B9 : Hid (Below w.heap.size w w9) := B8.out.trans (hB.mono B8.out.size)
  clear hB H9
  go_wp2_with fail
  go_ret
  exact ⟨by simp, B9.out⟩
end Go.Proofs.Ytcdmndcpjememaa
