/- The walks of abs, less, surelyBelow, of, short, gcdOfShort. -/
import Derived.Test.YtlgcnjinmcgacaaDoorOverMany
import Derived.Test.YtlgcnjinmcgacaaDoorLehmer
import Derived.Test.YtlgcnjinmcgacaaDoorIs
set_option linter.unusedSimpArgs false
set_option linter.unusedVariables false
namespace Go.Proofs.YtlgcnjinmcgacaaDoor
open Go.RowKit Go.Deep

/-- The value without its sign. -/
def absI (v : Int) : Int := if v < 0 then -v else v
set_option maxHeartbeats 400000 in
theorem abs_any (v : Int) (w : World) (h : -4000000000000000000 ≤ v ∧ v ≤ 4000000000000000000) :
    Calls Tryd.prog 130 #[.int .i64 v] w fun e w' => e = .returned (.int .i64 (absI v)) ∧ w' = w := by
  go_enter Tryd.func130, Tryd.ntmps130
  by_cases h0 : v < -v
  · have e : absI v = -v := by unfold absI; rw [if_pos (by omega)]
    have HE : Hid (absI v = -v) := e
    clear e
    go_wp2_with fail
    all_goals go_ret
    all_goals exact ⟨ret_i (by rw [HE.out]), rfl⟩
  · have e : absI v = v := by unfold absI; split <;> omega
    have HE : Hid (absI v = v) := e
    clear e
    go_wp2_with fail
    all_goals go_ret
    all_goals exact ⟨ret_i (by rw [HE.out]), rfl⟩
/-- A row as the program holds it. -/
abbrev rowV (h x y : Int) : Value := .agg #[.int .i64 h, .int .i64 x, .int .i64 y]

set_option maxHeartbeats 1000000 in
theorem less_any (h x y l u v q : Int) (w : World) (b1 : -4000000000000000000 ≤ q * l ∧ q * l ≤ 4000000000000000000) (b2 : -4000000000000000000 ≤ q * u ∧ q * u ≤ 4000000000000000000) (b3 : -4000000000000000000 ≤ q * v ∧ q * v ≤ 4000000000000000000)
    (c1 : -4000000000000000000 ≤ h ∧ h ≤ 4000000000000000000) (c2 : -4000000000000000000 ≤ x ∧ x ≤ 4000000000000000000) (c3 : -4000000000000000000 ≤ y ∧ y ≤ 4000000000000000000) :
    Calls Tryd.prog 118 #[rowV h x y, rowV l u v, .int .i64 q] w fun e w' => e = .returned (rowV (h - q * l) (x - q * u) (y - q * v)) ∧ Below w.heap.size w w' := by
  have k1 : IntKind.i64.wrap (q * l) = q * l := IntWalk.i64_in _ ⟨by omega, by omega⟩
  have k2 : IntKind.i64.wrap (q * u) = q * u := IntWalk.i64_in _ ⟨by omega, by omega⟩
  have k3 : IntKind.i64.wrap (q * v) = q * v := IntWalk.i64_in _ ⟨by omega, by omega⟩
  go_enter Tryd.func118, Tryd.ntmps118
  go_wp2_with fail
  refine bodyPost_ret (v := rowV (h - q * l) (x - q * u) (y - q * v)) (by simp [results, Tryd.results118, go_sem]) rfl ⟨rfl, ?_⟩
  exact (((Below.refl _ w).alloc (Nat.le_refl _) _).alloc (by simp) _).alloc (by simp; omega) _

/-- Is a row surely below the one ahead of it? -/
def sureB (h y l v : Int) : Bool := decide (absI y ≤ h) && decide (absI (v - y) ≤ l - h)
set_option maxRecDepth 100000 in
set_option maxHeartbeats 2000000 in
theorem surely_any (h x y l u v : Int) (w : World) (c1 : -2000000000000000000 ≤ h ∧ h ≤ 2000000000000000000) (c3 : -2000000000000000000 ≤ y ∧ y ≤ 2000000000000000000) (c4 : -2000000000000000000 ≤ l ∧ l ≤ 2000000000000000000) (c6 : -2000000000000000000 ≤ v ∧ v ≤ 2000000000000000000) :
    Calls Tryd.prog 119 #[rowV h x y, rowV l u v] w fun e w' => e = .returned (.bool (sureB h y l v)) ∧ Below w.heap.size w w' := by
  have A1 : Hid (∀ W : World, Calls Tryd.prog 130 #[.int .i64 y] W fun e w' => e = .returned (.int .i64 (absI y)) ∧ w' = W) := fun W => abs_any y W (by omega)
  have A2 : Hid (∀ W : World, Calls Tryd.prog 130 #[.int .i64 (v - y)] W fun e w' => e = .returned (.int .i64 (absI (v - y))) ∧ w' = W) := fun W => abs_any (v - y) W (by omega)
  have HS : Hid (sureB h y l v = (decide (absI y ≤ h) && decide (absI (v - y) ≤ l - h))) := rfl
  generalize sureB h y l v = β at *
  have ab : absI y ≤ 4000000000000000000 ∧ 0 ≤ absI y := by unfold absI; split <;> omega
  have ab2 : absI (v - y) ≤ 4000000000000000000 ∧ 0 ≤ absI (v - y) := by unfold absI; split <;> omega
  generalize absI y = p at *
  generalize absI (v - y) = r at *
  go_enter Tryd.func119, Tryd.ntmps119
  go_wp2_with fail
  obtain ⟨W, hW⟩ : ∃ W, W = (w.alloc (.cells #[.int .i64 h, .int .i64 x, .int .i64 y] 112)).alloc (.cells #[.int .i64 l, .int .i64 u, .int .i64 v] 112) := ⟨_, rfl⟩
  have d1 : W.cell? ⟨w.heap.size, 0, none⟩ = some (.int .i64 h) := by rw [hW]; simp
  have d3 : W.cell? ⟨w.heap.size, 2, none⟩ = some (.int .i64 y) := by rw [hW]; simp
  have d4 : W.cell? ⟨w.heap.size + 1, 0, none⟩ = some (.int .i64 l) := by rw [hW]; simp
  have d6 : W.cell? ⟨w.heap.size + 1, 2, none⟩ = some (.int .i64 v) := by rw [hW]; simp
  have HB : Hid (Below w.heap.size w W) := by rw [hW]; exact ((Below.refl _ w).alloc (Nat.le_refl _) _).alloc (by simp) _
  rw [← hW]
  clear hW
  by_cases hp : p ≤ h
  · go_quiet (first | (go_at_call_of 130 y; first | exact Calls.quiet_of_same (A1.out _) | exact Calls.quiet_of_same (A2.out _)))
    go_wp2_with fail
    go_ret
    exact ⟨ret_b (by rw [HS.out]; simp [hp]), HB.out.trans ⟨rfl, rfl, rfl, Nat.le_refl _, fun _ _ => rfl⟩⟩
  · have hpd : decide (p ≤ h) = false := decide_eq_false hp
    go_quiet (first | (go_at_call_of 130 y; first | exact Calls.quiet_of_same (A1.out _) | exact Calls.quiet_of_same (A2.out _)))
    go_wp2_with fail
    go_ret
    exact ⟨ret_b (by rw [HS.out]; simp [hpd]), HB.out.trans ⟨rfl, rfl, rfl, Nat.le_refl _, fun _ _ => rfl⟩⟩
end Go.Proofs.YtlgcnjinmcgacaaDoor
