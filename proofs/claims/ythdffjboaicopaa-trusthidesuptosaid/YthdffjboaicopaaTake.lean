/- The reference's take. -/
import Derived.Test.YthdffjboaicopaaMd
import Derived.Test.YthdffjboaicopaaCompare
set_option linter.unusedSimpArgs false
set_option linter.unusedVariables false
namespace Go.Proofs.Ythdffjboaicopaa
open Go.RowKit Go.Deep Go.PlainAid

theorem laid_set (p : List Nat) (L i Y : Nat) (hp : p.length = i) (hi : i < L) : (zs (p ++ List.replicate (L - i) 0)).set i (.int .i64 (Y : Int)) = zs (p ++ [Y] ++ List.replicate (L - (i + 1)) 0) := by
  rw [zs_set _ i Y _ rfl]
  congr 1
  rw [List.set_append_right _ _ (by omega), show i - p.length = 0 by omega, show L - i = (L - (i + 1)) + 1 by omega, List.replicate_succ, List.set_cons_zero, List.append_assoc]
  rfl
/-- One digit. -/
theorem digit_off {y dn z : Nat} {D : Int} (hy : y < 65536) (hd : dn ≤ 65536) (hz : z ≤ 4294836225) (hD : D = (y : Int) - (dn : Int) - (z : Int)) :
    ∃ E Y : Nat, E ≤ 65536 ∧ Y < 65536 ∧ (y : Int) - (z : Int) - (dn : Int) = (Y : Int) - (E : Int) * 65536 ∧ (0 ≤ D → E = 0 ∧ D = (Y : Int)) ∧ (D < 0 → (65535 - D) / 65536 = (E : Int) ∧ D + (E : Int) * 65536 = (Y : Int)) := by
  by_cases h : 0 ≤ D
  · exact ⟨0, D.toNat, by omega, by omega, by omega, fun _ => ⟨rfl, by omega⟩, fun h => by omega⟩
  · exact ⟨((65535 - D) / 65536).toNat, (D + (65535 - D) / 65536 * 65536).toNat, by omega, by omega, by omega, fun h => by omega, fun _ => ⟨by omega, by omega⟩⟩
end Go.Proofs.Ythdffjboaicopaa
