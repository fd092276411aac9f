/- readRisk of anything. -/
import Derived.Test.YtflabehlaiocaaaDoorGg
set_option linter.unusedSimpArgs false
set_option linter.unusedVariables false
namespace Go.Proofs.YtflabehlaiocaaaDoor
open Go.RowKit Go.Deep Go.PlainAid

/-- What is wrong with a risk. -/
def rkC (n d : ByteArray) : Int := if rsB n d = false then 2 else if bv n.data.toList = 0 ∨ bv d.data.toList < bv n.data.toList then 4 else 0
theorem isZero24 {nn : Nat} {W : World} {v : Value} (h : NumV W 1000000000 nn v) : Calls Tryd.prog 24 #[v] W fun e w' => e = .returned (.bool (nn == 0)) ∧ Below W.heap.size W w' :=
  (isZeroV h).mono fun e w' ⟨h1, h2⟩ => ⟨h1, by rw [h2]; exact Below.refl _ _⟩
theorem rs_dg {n d : ByteArray} (h : rsB n d = true) : (dg 1000000000 (bv n.data.toList)).length ≤ 400000 ∧ (dg 1000000000 (bv d.data.toList)).length ≤ 400000 := by
  unfold rsB at h
  simp only [Bool.and_eq_true, decide_eq_true_eq] at h
  obtain ⟨h1, h2, a1, a2, -, -⟩ := h
  have q1 := dg_len_bv n (wrT_ok a1 (by omega))
  have q2 := dg_len_bv d (wrT_ok a2 (by omega))
  exact ⟨by omega, by omega⟩
theorem one_dg : (dg 1000000000 1).length ≤ 400000 := by rw [dg_pos bigBase (by omega)]; simp [dg_zero]
theorem cmp_one {n d : Nat} : 0 < cmp3 ((n * 1 : Nat) : Int) ((1 * d : Nat) : Int) ↔ d < n := by
  unfold cmp3
  rw [Nat.mul_one, Nat.one_mul]
  split
  · omega
  · split <;> omega
theorem risk10_bad (n d : ByteArray) (w : World) (h : rkC n d ≠ 0) :
    Calls Tryd.prog 10 #[.agg #[.string n, .string d]] w fun e w' => e = .returned (.tuple #[.agg #[.slice none 0 0, .slice none 0 0], .int .i64 (rkC n d)]) ∧ Below w.heap.size w w' := by
  unfold rkC at h ⊢
  by_cases h1 : rsB n d = false
  · rw [if_pos h1]
    exact risk_no n d w (fun W => short_not n d W h1)
  · have h1' : rsB n d = true := by simpa using h1
    rw [if_neg h1] at h ⊢
    by_cases h2 : bv n.data.toList = 0 ∨ bv d.data.toList < bv n.data.toList
    · rw [if_pos h2]
      by_cases h3 : bv n.data.toList = 0
      · refine risk_zero n d w _ _ (fun W => short_yes n d W h1') (fun W v hv => ?_)
        have q := isZero24 hv
        rw [beq_iff_eq.2 h3] at q
        exact q
      · have h4 := h2.resolve_left h3
        refine risk_more n d w _ _ _ (cmp_one.2 h4) (fun W => short_yes n d W h1') (fun W v hv => ?_) (fun W => whole26 1 (by omega) W) (fun W v1 v2 v3 v4 g1 g2 g3 g4 => fracCompareV ⟨g1, g2, g3, g4⟩ (rs_dg h1').1 (rs_dg h1').2 one_dg one_dg)
        have q := isZero24 hv
        rw [beq_eq_false_iff_ne.2 h3] at q
        exact q
    · rw [if_neg h2] at h
      exact absurd rfl h
theorem risk10_ok (n d : ByteArray) (w : World) (h : rkC n d = 0) :
    Calls Tryd.prog 10 #[.agg #[.string n, .string d]] w fun e w' => (∃ u1 u2, e = .returned (.tuple #[.agg #[u1, u2], .int .i64 0]) ∧ NumV w' 1000000000 (bv n.data.toList) u1 ∧ NumV w' 1000000000 (bv d.data.toList) u2) ∧ Below w.heap.size w w' := by
  unfold rkC at h
  by_cases h1 : rsB n d = false
  · rw [if_pos h1] at h; omega
  · have h1' : rsB n d = true := by simpa using h1
    rw [if_neg h1] at h
    by_cases h2 : bv n.data.toList = 0 ∨ bv d.data.toList < bv n.data.toList
    · rw [if_pos h2] at h; omega
    · have h3 : bv n.data.toList ≠ 0 := fun q => h2 (.inl q)
      have h4 : ¬ bv d.data.toList < bv n.data.toList := fun q => h2 (.inr q)
      refine risk_ok n d w _ _ _ (fun q => h4 (cmp_one.1 q)) (fun W => short_yes n d W h1') (fun W v hv => ?_) (fun W => whole26 1 (by omega) W) (fun W v1 v2 v3 v4 g1 g2 g3 g4 => fracCompareV ⟨g1, g2, g3, g4⟩ (rs_dg h1').1 (rs_dg h1').2 one_dg one_dg)
      have q := isZero24 hv
      rw [beq_eq_false_iff_ne.2 h3] at q
      exact q
end Go.Proofs.YtflabehlaiocaaaDoor
