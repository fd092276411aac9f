/- The document's Print. -/
import Derived.Test.YtlogilmeefcipaaDoorPrRef
set_option linter.unusedSimpArgs false
set_option linter.unusedVariables false
set_option maxRecDepth 100000
namespace Go.Proofs.YtlogilmeefcipaaDoor
open Go.RowKit Go.Deep Go.PlainAid

/-- What is printed: the text, and what is wrong. -/
def prV (n : Gn) : List UInt8 × Nat := if goods [n] = false then ([], 2) else if 12 < deps [n] ∨ 1048576 < (wrts [n]).length then ([], 3) else (wrts [n], 0)
set_option maxHeartbeats 2000000 in
theorem refPrint_any {w : World} {n : Gn} {a b c : Value} (h : GAt w n a b c) (hk : bk [n] ≤ 1048576) (w' : World) (hw : Below w.heap.size w w') :
    Calls Tryd.prog 6 #[.agg #[a, b, c]] w' fun e w2 => e = .returned (.tuple #[S (prV n).1, .int .i64 ((prV n).2 : Int)]) ∧ Below w'.heap.size w' w2 := by
  have hG := good_any h hk
  have hD := depth_any h hk
  have hS := sizeN_any h hk
  have hW := written_any h hk
  obtain ⟨ab, bb, ca, cm, cc, rfl, rfl, rfl⟩ := h.form
  have B0 : Hid (Below w'.heap.size w' (w'.alloc (.cells #[.bool ab, .string bb, .slice ca cm cc] 24))) := (Below.refl _ w').alloc (Nat.le_refl _) _
  have K0 : Hid (Below w.heap.size w (w'.alloc (.cells #[.bool ab, .string bb, .slice ca cm cc] 24))) := hw.alloc hw.size _
  have I0 : Hid (IHolds (w'.alloc (.cells #[.bool ab, .string bb, .slice ca cm cc] 24)) w'.heap.size 24 [.bool ab, .string bb, .slice ca cm cc]) := IHolds.new' w' 24 [.bool ab, .string bb, .slice ca cm cc] rfl
  have hb := wrts_len [n] hk
  have hd := deps_le [n]
  unfold prV
  cases hg : goods [n] with
  | false =>
    rw [hg] at hG
    rw [if_pos rfl]
    clear hD hS hW hg
    go_enter Tryd.func6, Tryd.ntmps6
    go_wp2_with (go_at_call 10; refine (hG _ K0.out).mono ?_; rintro e w1 ⟨rfl, hB1⟩)
    go_ret2
    exact ⟨rfl, B0.out.trans (hB1.mono B0.out.size)⟩
  | true =>
    rw [hg] at hG
    replace hD := hD hg
    replace hS := hS hg
    replace hW := hW hg
    rw [if_neg (by simp)]
    clear hg
    generalize wrts [n] = wx at *
    generalize deps [n] = dn at *
    by_cases h12 : 12 < dn
    · rw [if_pos (Or.inl h12)]
      have h12' : (12 : Int) < (dn : Int) := by omega
      go_enter Tryd.func6, Tryd.ntmps6
      go_wp2_with (first | (go_at_call 10; refine (hG _ K0.out).mono ?_; rintro e w1 ⟨rfl, hB1⟩; have K1 : Hid (Below w.heap.size w w1) := K0.out.trans (hB1.mono K0.out.size); have I1 : Hid (IHolds w1 w'.heap.size 24 [.bool ab, .string bb, .slice ca cm cc]) := I0.out.of_below hB1; have B1 : Hid (Below w'.heap.size w' w1) := B0.out.trans (hB1.mono B0.out.size); have d0 : w1.cell? ⟨w'.heap.size, 0, none⟩ = some (.bool ab) := I1.out.cell 0 (by simp); have d1 : w1.cell? ⟨w'.heap.size, 1, none⟩ = some (.string bb) := I1.out.cell 1 (by simp); have d2 : w1.cell? ⟨w'.heap.size, 2, none⟩ = some (.slice ca cm cc) := I1.out.cell 2 (by simp); clear hB1) | (go_at_call 11; refine (hD _ K1.out).mono ?_; rintro e w2 ⟨rfl, hB2⟩))
      go_ret2
      exact ⟨rfl, B1.out.trans (hB2.mono B1.out.size)⟩
    · have h12' : ¬ (12 : Int) < (dn : Int) := by omega
      have s1 := fun hh => hS hh
      by_cases hz : 1048576 < wx.length
      · rw [if_pos (Or.inr hz)]
        have hz' : (1048576 : Int) < (wx.length : Int) := by omega
        go_enter Tryd.func6, Tryd.ntmps6
        go_wp2_with (first | (go_at_call 10; refine (hG _ K0.out).mono ?_; rintro e w1 ⟨rfl, hB1⟩; have K1 : Hid (Below w.heap.size w w1) := K0.out.trans (hB1.mono K0.out.size); have I1 : Hid (IHolds w1 w'.heap.size 24 [.bool ab, .string bb, .slice ca cm cc]) := I0.out.of_below hB1; have B1 : Hid (Below w'.heap.size w' w1) := B0.out.trans (hB1.mono B0.out.size); have d0 : w1.cell? ⟨w'.heap.size, 0, none⟩ = some (.bool ab) := I1.out.cell 0 (by simp); have d1 : w1.cell? ⟨w'.heap.size, 1, none⟩ = some (.string bb) := I1.out.cell 1 (by simp); have d2 : w1.cell? ⟨w'.heap.size, 2, none⟩ = some (.slice ca cm cc) := I1.out.cell 2 (by simp); clear hB1) | (go_at_call 11; refine (hD _ K1.out).mono ?_; rintro e w2 ⟨rfl, hB2⟩; have K2 : Hid (Below w.heap.size w w2) := K1.out.trans (hB2.mono K1.out.size); have I2 : Hid (IHolds w2 w'.heap.size 24 [.bool ab, .string bb, .slice ca cm cc]) := I1.out.of_below hB2; have B2 : Hid (Below w'.heap.size w' w2) := B1.out.trans (hB2.mono B1.out.size); have g0 : w2.cell? ⟨w'.heap.size, 0, none⟩ = some (.bool ab) := I2.out.cell 0 (by simp); have g1 : w2.cell? ⟨w'.heap.size, 1, none⟩ = some (.string bb) := I2.out.cell 1 (by simp); have g2 : w2.cell? ⟨w'.heap.size, 2, none⟩ = some (.slice ca cm cc) := I2.out.cell 2 (by simp); clear hB2) | (go_at_call 12; refine (hS _ K2.out).mono ?_; rintro e w3 ⟨rfl, hB3⟩))
        go_ret2
        exact ⟨rfl, B2.out.trans (hB3.mono B2.out.size)⟩
      · rw [if_neg (by omega)]
        have hz' : ¬ (1048576 : Int) < (wx.length : Int) := by omega
        go_enter Tryd.func6, Tryd.ntmps6
        go_wp2_with (first | (go_at_call 10; refine (hG _ K0.out).mono ?_; rintro e w1 ⟨rfl, hB1⟩; have K1 : Hid (Below w.heap.size w w1) := K0.out.trans (hB1.mono K0.out.size); have I1 : Hid (IHolds w1 w'.heap.size 24 [.bool ab, .string bb, .slice ca cm cc]) := I0.out.of_below hB1; have B1 : Hid (Below w'.heap.size w' w1) := B0.out.trans (hB1.mono B0.out.size); have d0 : w1.cell? ⟨w'.heap.size, 0, none⟩ = some (.bool ab) := I1.out.cell 0 (by simp); have d1 : w1.cell? ⟨w'.heap.size, 1, none⟩ = some (.string bb) := I1.out.cell 1 (by simp); have d2 : w1.cell? ⟨w'.heap.size, 2, none⟩ = some (.slice ca cm cc) := I1.out.cell 2 (by simp); clear hB1) | (go_at_call 11; refine (hD _ K1.out).mono ?_; rintro e w2 ⟨rfl, hB2⟩; have K2 : Hid (Below w.heap.size w w2) := K1.out.trans (hB2.mono K1.out.size); have I2 : Hid (IHolds w2 w'.heap.size 24 [.bool ab, .string bb, .slice ca cm cc]) := I1.out.of_below hB2; have B2 : Hid (Below w'.heap.size w' w2) := B1.out.trans (hB2.mono B1.out.size); have g0 : w2.cell? ⟨w'.heap.size, 0, none⟩ = some (.bool ab) := I2.out.cell 0 (by simp); have g1 : w2.cell? ⟨w'.heap.size, 1, none⟩ = some (.string bb) := I2.out.cell 1 (by simp); have g2 : w2.cell? ⟨w'.heap.size, 2, none⟩ = some (.slice ca cm cc) := I2.out.cell 2 (by simp); clear hB2) | (go_at_call 12; refine (hS _ K2.out).mono ?_; rintro e w3 ⟨rfl, hB3⟩; have K3 : Hid (Below w.heap.size w w3) := K2.out.trans (hB3.mono K2.out.size); have I3 : Hid (IHolds w3 w'.heap.size 24 [.bool ab, .string bb, .slice ca cm cc]) := I2.out.of_below hB3; have B3 : Hid (Below w'.heap.size w' w3) := B2.out.trans (hB3.mono B2.out.size); have j0 : w3.cell? ⟨w'.heap.size, 0, none⟩ = some (.bool ab) := I3.out.cell 0 (by simp); have j1 : w3.cell? ⟨w'.heap.size, 1, none⟩ = some (.string bb) := I3.out.cell 1 (by simp); have j2 : w3.cell? ⟨w'.heap.size, 2, none⟩ = some (.slice ca cm cc) := I3.out.cell 2 (by simp); clear hB3) | (go_at_call 17; refine (hW _ K3.out).mono ?_; rintro e w4 ⟨rfl, hB4⟩))
        go_ret2
        exact ⟨rfl, B3.out.trans (hB4.mono B3.out.size)⟩
end Go.Proofs.YtlogilmeefcipaaDoor
