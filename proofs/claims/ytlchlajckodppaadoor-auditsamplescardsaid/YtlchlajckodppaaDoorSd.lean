/- The law's walk. -/
import Derived.Test.YtlchlajckodppaaDoorSc
set_option linter.unusedSimpArgs false
set_option linter.unusedVariables false
set_option maxRecDepth 100000
namespace Go.Proofs.YtlchlajckodppaaDoor
open Go.RowKit Go.Deep Go.PlainAid

set_option maxHeartbeats 1000000 in
theorem sameInts6 {w : World} {a b : Option Addr} {c d : Nat} (n : Nat) (l : List Nat) (hl : l.length = n) (hn : n ≤ 4096) (h1 : Row w a l) (h2 : Row w b l) :
    Calls Tryd.prog 6 #[.slice a n c, .slice b n d] w fun e w' => e = .returned (.bool true) ∧ Below w.heap.size w w' := by
  have H1 : Hid (Row w a l) := h1
  have H2 : Hid (Row w b l) := h2
  clear h1 h2
  go_enter Tryd.func6, Tryd.ntmps6
  go_wp2_with fail
  go_loopg [5, 13] n (fun gk v5 v13 wr => ∃ i : Nat, i + gk = n ∧ v13 = .int .i64 (i : Int) ∧ Below w.heap.size w wr)
  case atStart => exact ⟨0, by omega, rfl, Below.refl _ _⟩
  case round =>
    obtain ⟨i, hig, rfl, hB⟩ := hrel
    have B : Hid (Below w.heap.size w wr) := hB
    clear hB
    by_cases hi : i < n
    · have il : (i : Int) < (n : Int) := by omega
      have hi2 : i < l.length := by omega
      obtain ⟨b1, o1, rfl, q1⟩ := H1.out.of_below B.out i hi2
      obtain ⟨b2, o2, rfl, q2⟩ := H2.out.of_below B.out i hi2
      generalize l[i] = x at *
      go_wp2_with fail
      go_quiet (fail)
      have BQ : Hid (Below w.heap.size w (World.drewN wr nq)) := B.out.trans ⟨rfl, rfl, rfl, Nat.le_refl _, fun _ _ => rfl⟩
      clear q1 q2
      generalize World.drewN wr nq = wq at *
      go_wp2_with fail
      go_roundg (gk - 1)
      case measure => omega
      case rel => exact ⟨i + 1, by omega, by go_num, BQ.out⟩
    · have il : ¬ (i : Int) < (n : Int) := by omega
      go_wp2_with fail
      go_ret
      exact ⟨rfl, B.out⟩

set_option maxHeartbeats 1000000 in
theorem samples_ok (seed : ByteArray) (hs : seed.size ≤ 140737488355328) (t n : Nat) (t1 : 1 ≤ t) (t2 : t ≤ 1048576) (n2 : n ≤ 1024) (w : World) (hT : F.Tabs w) (hS : F.Starts w) :
    Calls Tryd.prog 3 #[.string seed, .int .i64 (t : Int), .int .i64 (n : Int)] w fun e w' => e = .returned (.bool true) ∧ Below w.heap.size w w' := by
  have A := sample4_ok seed hs t n t1 t2 n2 w hT hS
  have A4 : Hid (Calls Tryd.prog 4 #[.string seed, .int .i64 (t : Int), .int .i64 (n : Int)] w fun e w' => (∃ v, e = .returned (.tuple #[v, .int .i64 0]) ∧ LN w' (sL seed t n) v) ∧ Below w.heap.size w w') := A
  have A5 : Hid (∀ W, Calls Tryd.prog 5 #[.string seed, .int .i64 (t : Int), .int .i64 (n : Int)] W fun e w' => (∃ v, e = .returned (.tuple #[v, .int .i64 0]) ∧ LN w' (sL seed t n) v) ∧ Below W.heap.size W w') := fun W => ref5_ok seed hs t n t1 t2 n2 W
  have A6 : Hid (∀ W a b c d, Row W a (sL seed t n) → Row W b (sL seed t n) → Calls Tryd.prog 6 #[.slice a (sL seed t n).length c, .slice b (sL seed t n).length d] W fun e w' => e = .returned (.bool true) ∧ Below W.heap.size W w') := fun W a b c d h1 h2 => sameInts6 _ _ rfl (by rw [sL_length]; omega) h1 h2
  clear A hT hS hs
  generalize sL seed t n = L at *
  go_enter Tryd.func3, Tryd.ntmps3
  go_wp2_with (first | (go_at_call 4; refine A4.out.mono ?_; rintro e w1 ⟨⟨v1, rfl, l1⟩, b1⟩; obtain ⟨p1, c1, rfl, r1⟩ := l1; have B1 : Hid (Below w.heap.size w w1) := b1; have R1 : Hid (Row w1 p1 L) := r1; clear b1 r1 A4) | (go_at_call 5; refine (A5.out _).mono ?_; rintro e w2 ⟨⟨v2, rfl, l2⟩, b2⟩; obtain ⟨p2, c2, rfl, r2⟩ := l2; have B2 : Hid (Below w.heap.size w w2) := B1.out.trans (b2.mono B1.out.size); have R2 : Hid (Row w2 p2 L) := r2; replace R1 : Hid (Row w2 p1 L) := R1.out.of_below b2; clear b2 r2 A5) | (go_at_call 6; refine (A6.out _ _ _ _ _ R1.out R2.out).mono ?_; rintro e w3 ⟨rfl, b3⟩; have B3 : Hid (Below w.heap.size w w3) := B2.out.trans (b3.mono B2.out.size); clear b3 A6))
  go_ret
  exact ⟨rfl, B3.out⟩

set_option maxHeartbeats 1000000 in
theorem samples_bad (seed : ByteArray) (t n : Int) (h : ¬ ((1 ≤ t ∧ t ≤ 1048576) ∧ (0 ≤ n ∧ n ≤ 1024))) (w : World) :
    Calls Tryd.prog 3 #[.string seed, .int .i64 t, .int .i64 n] w fun e w' => e = .returned (.bool true) ∧ Below w.heap.size w w' := by
  have A4 : Hid (∀ W, Calls Tryd.prog 4 #[.string seed, .int .i64 t, .int .i64 n] W fun e w' => e = .returned (.tuple #[.slice none 0 0, .int .i64 4]) ∧ w' = W) := fun W => sample4_bad seed t n h W
  have A5 : Hid (∀ W, Calls Tryd.prog 5 #[.string seed, .int .i64 t, .int .i64 n] W fun e w' => e = .returned (.tuple #[.slice none 0 0, .int .i64 4]) ∧ w' = W) := fun W => ref5_bad seed t n h W
  have A6 : Hid (∀ W, Calls Tryd.prog 6 #[.slice none 0 0, .slice none 0 0] W fun e w' => e = .returned (.bool true) ∧ Below W.heap.size W w') := fun W => sameInts6 0 [] rfl (by omega) (Row.nil _ _) (Row.nil _ _)
  clear h
  go_enter Tryd.func3, Tryd.ntmps3
  go_wp2_with (first | (go_at_call 4; refine (A4.out _).mono ?_; rintro e w1 ⟨rfl, h1⟩; obtain rfl := h1.symm) | (go_at_call 5; refine (A5.out _).mono ?_; rintro e w2 ⟨rfl, h2⟩; obtain rfl := h2.symm) | (go_at_call 6; refine (A6.out _).mono ?_; rintro e w3 ⟨rfl, b3⟩; have B3 : Hid (Below w.heap.size w w3) := b3; clear b3 A6))
  go_ret
  exact ⟨rfl, B3.out⟩

theorem samples_walk (seed : ByteArray) (hs : seed.size ≤ 140737488355328) (t n : Int) (w : World) (hT : F.Tabs w) (hS : F.Starts w) :
    Calls Tryd.prog 3 #[.string seed, .int .i64 t, .int .i64 n] w fun e w' => e = .returned (.bool true) ∧ Below w.heap.size w w' := by
  by_cases h : (1 ≤ t ∧ t ≤ 1048576) ∧ (0 ≤ n ∧ n ≤ 1024)
  · obtain ⟨t', rfl⟩ : ∃ t' : Nat, t = (t' : Int) := ⟨t.toNat, by omega⟩
    obtain ⟨n', rfl⟩ : ∃ n' : Nat, n = (n' : Int) := ⟨n.toNat, by omega⟩
    exact samples_ok seed hs t' n' (by omega) (by omega) (by omega) w hT hS
  · exact samples_bad seed t n h w
end Go.Proofs.YtlchlajckodppaaDoor
