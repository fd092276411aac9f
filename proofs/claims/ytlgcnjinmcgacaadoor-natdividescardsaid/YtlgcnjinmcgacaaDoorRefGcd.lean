/- The reference's gcd. -/
import Derived.Test.YtlgcnjinmcgacaaDoorRefDiv
set_option linter.unusedSimpArgs false
set_option linter.unusedVariables false
namespace Go.Proofs.YtlgcnjinmcgacaaDoor
open Go.RowKit Go.Deep Go.PlainAid

set_option maxRecDepth 100000 in
set_option maxHeartbeats 2000000 in
theorem refGcdV {w : World} {n m : Nat} {v1 v2 : Value} (h1 : NumV w 10 n v1) (h2 : NumV w 10 m v2) (b1 : (dg 10 n).length ≤ 900000) (b2 : (dg 10 m).length ≤ 900000) :
    Calls Tryd.prog 22 #[v1, v2] w fun e w' => (∃ v, e = .returned v ∧ NumV w' 10 (Nat.gcd n m) v) ∧ Below w.heap.size w w' := by
  have A1 : Hid (NumV w 10 n v1) := h1
  have A2 : Hid (NumV w 10 m v2) := h2
  have A3 : Hid ((dg 10 n).length ≤ 900000) := b1
  have A4 : Hid ((dg 10 m).length ≤ 900000) := b2
  clear h1 h2 b1 b2
  go_enter Tryd.func22, Tryd.ntmps22
  go_wp2_with fail
  go_loopg [0, 1] m (fun gk u1 u2 wr => ∃ (x : Nat) (v v' : Value), v = u1 ∧ v' = u2 ∧ NumV wr 10 x v ∧ NumV wr 10 gk v' ∧ Nat.gcd x gk = Nat.gcd n m ∧ (dg 10 x).length ≤ 900000 ∧ (dg 10 gk).length ≤ 900000 ∧ Below w.heap.size w wr)
  case atStart => exact ⟨n, _, _, rfl, rfl, A1.out, A2.out, rfl, A3.out, A4.out, Below.refl _ _⟩
  case round =>
    obtain ⟨x, v, v', rfl, rfl, hN1, hN2, hG, hL1, hL2, hB⟩ := hrel
    clear A1 A2 A3 A4
    have HG : Hid (Nat.gcd x gk = Nat.gcd n m) := hG
    have HB : Hid (Below w.heap.size w wr) := hB
    have HN1 : Hid (NumV wr 10 x v) := hN1
    clear hG hB hN1
    generalize gk = y at *
    by_cases h0 : y = 0
    · subst h0
      have HR : Hid (NumV wr 10 (Nat.gcd n m) v) := by
        have := HN1.out
        rw [← HG.out, Nat.gcd_zero_right]; exact this
      obtain ⟨a2, c2, rfl, _, _⟩ := hN2
      rw [dg_zero]
      clear hL1 hL2 HG HN1
      go_wp2_with fail
      go_ret
      exact ⟨⟨_, rfl, HR.out⟩, HB.out⟩
    · have HD : Hid (Calls Tryd.prog 24 #[v, v'] wr fun e w' => (∃ u1 u2, e = .returned (.tuple #[u1, u2]) ∧ NumV w' 10 (x / y) u1 ∧ NumV w' 10 (x % y) u2) ∧ Below wr.heap.size wr w') := refDivV HN1.out hN2 h0 hL1 hL2
      have HN2 : Hid (∀ W, Below wr.heap.size wr W → NumV W 10 y v') := fun W hW => hN2.of_below hW
      have HL : Hid ((dg 10 (x % y)).length ≤ 900000) := Nat.le_trans (dg_len_mono ten (Nat.le_of_lt (Nat.mod_lt x (by omega)))) hL2
      have HL2 : Hid (∀ z, z = y → (dg 10 z).length ≤ 900000) := fun z hz => by rw [hz]; exact hL2
      have HG2 : Hid (Nat.gcd y (x % y) = Nat.gcd n m) := by
        show _ = _
        rw [← HG.out, Nat.gcd_comm y (x % y), ← Nat.gcd_rec, Nat.gcd_comm]
      have HM : Hid (x % y < y) := Nat.mod_lt x (by omega)
      obtain ⟨a2, c2, rfl, _, _⟩ := hN2
      have hpos : 0 < (dg 10 y).length := by
        apply Nat.pos_of_ne_zero
        intro h; exact h0 ((dg_length_zero ten).1 h)
      clear hL1 hL2 HG HN1
      generalize (dg 10 y).length = L at *
      generalize x % y = r at *
      generalize x / y = q at *
      go_wp2_with fail
      refine HD.out.mono ?_
      rintro e W1 ⟨⟨u1, u2, rfl, _, hu2⟩, hb⟩
      have HU : Hid (NumV W1 10 r u2) := hu2
      have HB1 : Hid (Below w.heap.size w W1) := HB.out.trans (hb.mono HB.out.size)
      have HY : Hid (NumV W1 10 y (.slice a2 L c2)) := HN2.out W1 hb
      clear hu2 hb HD HN2
      go_wp2_with fail
      go_roundg r
      case measure => exact HM.out
      case rel => exact ⟨y, _, _, rfl, rfl, HY.out, HU.out, HG2.out, HL2.out y rfl, HL.out, HB1.out⟩
end Go.Proofs.YtlgcnjinmcgacaaDoor
