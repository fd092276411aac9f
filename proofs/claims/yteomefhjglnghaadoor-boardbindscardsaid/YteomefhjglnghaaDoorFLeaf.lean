/- The walks of RotateLeft32, half and unhalf: what they answer for any words. -/
import Derived.Test.YteomefhjglnghaaDoorRows
import Derived.Test.YteomefhjglnghaaDoorFPlain
import Derived.WalkKit
import Derived.WalkSpells
import Derived.WalkLawsBesides
import Derived.Handy
set_option linter.unusedSimpArgs false
set_option linter.unusedVariables false
set_option maxRecDepth 100000
namespace Go.Proofs.YteomefhjglnghaaDoor.F
open Go.RowKit

/-- A word as the program holds it. -/
abbrev U (x : UInt32) : Value := .int .u32 (x.toNat : Int)

theorem ret_u {a b : Int} (h : a = b) : Ending.returned (.int .u32 a) = .returned (.int .u32 b) := by rw [h]

theorem and_m16 : bits BinOp.and IntKind.u64 (IntKind.u64.wrap (-16)) 31 = 16 := by decide
set_option maxHeartbeats 400000 in
theorem rot_m16 (X : UInt32) (w : World) :
    Calls Tryd.prog 60 #[U X, .int .i64 (-16)] w fun e w' => e = .returned (U (rr 16 X)) ∧ w' = w := by
  have ha := and_m16
  have hX := ult X
  go_enter Tryd.func60, Tryd.ntmps60
  go_wp2
  go_ret
  refine ⟨ret_u (rr_bits 16 (by decide) X _ _ ?_ ?_), rfl⟩
  · simp only [Nat.reduceSub, Nat.reducePow]; omega
  · simp only [Nat.reducePow]; omega

theorem and_m12 : bits BinOp.and IntKind.u64 (IntKind.u64.wrap (-12)) 31 = 20 := by decide
set_option maxHeartbeats 400000 in
theorem rot_m12 (X : UInt32) (w : World) :
    Calls Tryd.prog 60 #[U X, .int .i64 (-12)] w fun e w' => e = .returned (U (rr 12 X)) ∧ w' = w := by
  have ha := and_m12
  have hX := ult X
  go_enter Tryd.func60, Tryd.ntmps60
  go_wp2
  go_ret
  refine ⟨ret_u (rr_bits 12 (by decide) X _ _ ?_ ?_), rfl⟩
  · simp only [Nat.reduceSub, Nat.reducePow]; omega
  · simp only [Nat.reducePow]; omega

theorem and_m8 : bits BinOp.and IntKind.u64 (IntKind.u64.wrap (-8)) 31 = 24 := by decide
set_option maxHeartbeats 400000 in
theorem rot_m8 (X : UInt32) (w : World) :
    Calls Tryd.prog 60 #[U X, .int .i64 (-8)] w fun e w' => e = .returned (U (rr 8 X)) ∧ w' = w := by
  have ha := and_m8
  have hX := ult X
  go_enter Tryd.func60, Tryd.ntmps60
  go_wp2
  go_ret
  refine ⟨ret_u (rr_bits 8 (by decide) X _ _ ?_ ?_), rfl⟩
  · simp only [Nat.reduceSub, Nat.reducePow]; omega
  · simp only [Nat.reducePow]; omega

theorem and_m7 : bits BinOp.and IntKind.u64 (IntKind.u64.wrap (-7)) 31 = 25 := by decide
set_option maxHeartbeats 400000 in
theorem rot_m7 (X : UInt32) (w : World) :
    Calls Tryd.prog 60 #[U X, .int .i64 (-7)] w fun e w' => e = .returned (U (rr 7 X)) ∧ w' = w := by
  have ha := and_m7
  have hX := ult X
  go_enter Tryd.func60, Tryd.ntmps60
  go_wp2
  go_ret
  refine ⟨ret_u (rr_bits 7 (by decide) X _ _ ?_ ?_), rfl⟩
  · simp only [Nat.reduceSub, Nat.reducePow]; omega
  · simp only [Nat.reducePow]; omega

theorem and_p16 : bits BinOp.and IntKind.u64 16 31 = 16 := by decide
set_option maxHeartbeats 400000 in
theorem rot_p16 (X : UInt32) (w : World) :
    Calls Tryd.prog 60 #[U X, .int .i64 16] w fun e w' => e = .returned (U (rr 16 X)) ∧ w' = w := by
  have ha := and_p16
  have hX := ult X
  go_enter Tryd.func60, Tryd.ntmps60
  go_wp2
  go_ret
  refine ⟨ret_u (rr_bits 16 (by decide) X _ _ ?_ ?_), rfl⟩
  · simp only [Nat.reduceSub, Nat.reducePow]; omega
  · simp only [Nat.reducePow]; omega

theorem and_p12 : bits BinOp.and IntKind.u64 12 31 = 12 := by decide
set_option maxHeartbeats 400000 in
theorem rot_p12 (X : UInt32) (w : World) :
    Calls Tryd.prog 60 #[U X, .int .i64 12] w fun e w' => e = .returned (U (rr 20 X)) ∧ w' = w := by
  have ha := and_p12
  have hX := ult X
  go_enter Tryd.func60, Tryd.ntmps60
  go_wp2
  go_ret
  refine ⟨ret_u (rr_bits 20 (by decide) X _ _ ?_ ?_), rfl⟩
  · simp only [Nat.reduceSub, Nat.reducePow]; omega
  · simp only [Nat.reducePow]; omega

theorem and_p8 : bits BinOp.and IntKind.u64 8 31 = 8 := by decide
set_option maxHeartbeats 400000 in
theorem rot_p8 (X : UInt32) (w : World) :
    Calls Tryd.prog 60 #[U X, .int .i64 8] w fun e w' => e = .returned (U (rr 24 X)) ∧ w' = w := by
  have ha := and_p8
  have hX := ult X
  go_enter Tryd.func60, Tryd.ntmps60
  go_wp2
  go_ret
  refine ⟨ret_u (rr_bits 24 (by decide) X _ _ ?_ ?_), rfl⟩
  · simp only [Nat.reduceSub, Nat.reducePow]; omega
  · simp only [Nat.reducePow]; omega

theorem and_p7 : bits BinOp.and IntKind.u64 7 31 = 7 := by decide
set_option maxHeartbeats 400000 in
theorem rot_p7 (X : UInt32) (w : World) :
    Calls Tryd.prog 60 #[U X, .int .i64 7] w fun e w' => e = .returned (U (rr 25 X)) ∧ w' = w := by
  have ha := and_p7
  have hX := ult X
  go_enter Tryd.func60, Tryd.ntmps60
  go_wp2
  go_ret
  refine ⟨ret_u (rr_bits 25 (by decide) X _ _ ?_ ?_), rfl⟩
  · simp only [Nat.reduceSub, Nat.reducePow]; omega
  · simp only [Nat.reducePow]; omega

/-- Four words as half and unhalf answer them. -/
abbrev T4 (p : Four) : Value := .tuple #[U p.a, U p.b, U p.c, U p.d]

set_option maxHeartbeats 400000 in
theorem half_16 (a b c d x : UInt32) (w : World) :
    Calls Tryd.prog 59 #[U a, U b, U c, U d, U x, .int .i64 16, .int .i64 12] w fun e w' => e = .returned (T4 (hf 16 12 ⟨a, b, c, d⟩ x)) ∧ w' = w := by
  have ha := add_u
  have hs := sub_u
  have hx := xor_u
  go_enter Tryd.func59, Tryd.ntmps59
  go_wp2_with fail
  refine (rot_m16 _ _).mono ?_
  rintro e w' ⟨rfl, rfl⟩
  go_wp2_with fail
  refine (rot_m12 _ _).mono ?_
  rintro e w' ⟨rfl, rfl⟩
  go_wp2_with fail
  refine bodyPost_ret (v := T4 (hf 16 12 ⟨a, b, c, d⟩ x)) (by simp [results, Tryd.results59, go_sem, hf, add_u, sub_u, xor_u]) rfl ⟨rfl, rfl⟩

set_option maxHeartbeats 400000 in
theorem half_8 (a b c d x : UInt32) (w : World) :
    Calls Tryd.prog 59 #[U a, U b, U c, U d, U x, .int .i64 8, .int .i64 7] w fun e w' => e = .returned (T4 (hf 8 7 ⟨a, b, c, d⟩ x)) ∧ w' = w := by
  have ha := add_u
  have hs := sub_u
  have hx := xor_u
  go_enter Tryd.func59, Tryd.ntmps59
  go_wp2_with fail
  refine (rot_m8 _ _).mono ?_
  rintro e w' ⟨rfl, rfl⟩
  go_wp2_with fail
  refine (rot_m7 _ _).mono ?_
  rintro e w' ⟨rfl, rfl⟩
  go_wp2_with fail
  refine bodyPost_ret (v := T4 (hf 8 7 ⟨a, b, c, d⟩ x)) (by simp [results, Tryd.results59, go_sem, hf, add_u, sub_u, xor_u]) rfl ⟨rfl, rfl⟩

end Go.Proofs.YteomefhjglnghaaDoor.F
