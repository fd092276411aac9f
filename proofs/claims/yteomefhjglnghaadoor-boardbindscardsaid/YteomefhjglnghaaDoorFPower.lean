/- The walk of the reference's power: 256 to the i. -/
import Derived.Test.YteomefhjglnghaaDoorFRefLeaf
set_option linter.unusedSimpArgs false
set_option linter.unusedVariables false
set_option maxRecDepth 100000
namespace Go.Proofs.YteomefhjglnghaaDoor.F
open Go.RowKit

theorem pow_lt (j : Nat) (h : j < 4) : 256 ^ j < 4294967296 := by
  obtain rfl | rfl | rfl | rfl : j = 0 ∨ j = 1 ∨ j = 2 ∨ j = 3 := by omega
  all_goals decide
set_option maxRecDepth 100000 in
set_option maxHeartbeats 400000 in
theorem power_any (n : Nat) (hn : n < 4) (w : World) :
    Calls Tryd.prog 38 #[.int .i64 (n : Int)] w fun e w' => e = .returned (.int .u32 ((256 ^ n : Nat) : Int)) ∧ w' = w := by
  go_enter Tryd.func38, Tryd.ntmps38
  go_wp2_with fail
  go_loopg [3, 4] n (fun k a i wr => ∃ j : Nat, j + k = n ∧ i = .int .i64 j ∧ a = .int .u32 ((256 ^ j : Nat) : Int) ∧ wr = w)
  case atStart => exact ⟨0, by omega, rfl, rfl, rfl⟩
  case round =>
    obtain ⟨j, hj, rfl, rfl, rfl⟩ := hrel
    by_cases hlt : j < n
    · have hsu : Hid (256 ^ (j + 1) = 256 ^ j * 256) := Nat.pow_succ ..
      have hb := pow_lt (j + 1) (by omega)
      have hb2 := pow_lt j (by omega)
      rw [hsu.out] at hb
      generalize 256 ^ j = y at *
      go_wp2_with fail
      go_roundg (gk - 1)
      case measure => omega
      case rel => exact ⟨j + 1, by omega, by go_num, by rw [hsu.out]; go_num, rfl⟩
    · obtain rfl : j = n := by omega
      go_wp2_with fail
      go_ret
      exact ⟨rfl, rfl⟩
end Go.Proofs.YteomefhjglnghaaDoor.F
