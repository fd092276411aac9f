/- Numbers of four words: is it nothing? -/
import Derived.Test.YtohpbclofcflaaaGreatOn2
import Derived.ChangeKeysEq
set_option linter.unusedSimpArgs false
set_option linter.unusedVariables false
namespace Go.Proofs.YtohpbclofcflaaaGreat
open Go.RowKit Go.Deep Go.PlainAid

theorem info64some : ∃ i, Tryz.prog.info? 79 = some i := by
  have h : (Tryz.prog.info? 79).isSome = true := by kernel_rfl
  exact Option.isSome_iff_exists.1 h
theorem cells64 : Tryz.prog.cellsOf 79 = 1 := by kernel_rfl
theorem size64 : (Tryz.prog.info? 79).map (·.size) = some 1 := by kernel_rfl
set_option maxRecDepth 100000 in
theorem eq66 (W : World) (z0 z1 z2 z3 : Nat) : (Op.equalIn 10000 81 (.agg #[U z0, U z1, U z2, U z3]) (.agg #[.int .u64 0, .int .u64 0, .int .u64 0, .int .u64 0])).run Tryz.prog W = .ok (decide (z0 = 0 ∧ z1 = 0 ∧ z2 = 0 ∧ z3 = 0)) W := by
  obtain ⟨i, hi⟩ := info64some
  have e := run_equalIn_array (P := Tryz.prog) W 9999 (t := 81) (e := 79) (n := 4) #[U z0, U z1, U z2, U z3] #[.int .u64 0, .int .u64 0, .int .u64 0, .int .u64 0] Tryz.underlying81 hi
  rw [e, cells64]
  have hu := Tryz.underlying79
  have q : ∀ (d : Nat) (a b : Int) (w : World), (Op.equalIn (d + 1) 79 (.int .u64 a) (.int .u64 b)).run Tryz.prog w = .ok (a == b) w := fun d a b w => run_equalIn_int w d 79 .u64 .u64 a b hu
  have q9 : ∀ (a b : Int) (w : World), (Op.equalIn 9999 79 (.int .u64 a) (.int .u64 b)).run Tryz.prog w = .ok (a == b) w := q 9998
  clear q
  have pk : Tryz.prog.plainKey 79 = true := by kernel_rfl
  have pp : ∀ (xs : Array Value) (off : Nat) (v : Value), xs[off]? = some v → (part 79 xs off).run Tryz.prog W = .ok v W := fun xs off v h => run_part_plain W pk h
  have a0 := pp #[U z0, U z1, U z2, U z3] 0 (U z0) rfl
  have a1 := pp #[U z0, U z1, U z2, U z3] 1 (U z1) rfl
  have a2 := pp #[U z0, U z1, U z2, U z3] 2 (U z2) rfl
  have a3 := pp #[U z0, U z1, U z2, U z3] 3 (U z3) rfl
  have b0 := pp #[.int .u64 0, .int .u64 0, .int .u64 0, .int .u64 0] 0 (.int .u64 0) rfl
  have b1 := pp #[.int .u64 0, .int .u64 0, .int .u64 0, .int .u64 0] 1 (.int .u64 0) rfl
  have b2 := pp #[.int .u64 0, .int .u64 0, .int .u64 0, .int .u64 0] 2 (.int .u64 0) rfl
  have b3 := pp #[.int .u64 0, .int .u64 0, .int .u64 0, .int .u64 0] 3 (.int .u64 0) rfl
  clear pp e
  generalize (#[U z0, U z1, U z2, U z3] : Array Value) = xs at *
  generalize (#[.int .u64 0, .int .u64 0, .int .u64 0, .int .u64 0] : Array Value) = ys at *
  simp only [show List.range 4 = [0, 1, 2, 3] from rfl, Op.eqItems, Sem.run_bind, Nat.zero_mul, Nat.one_mul, Nat.mul_one, a0, a1, a2, a3, b0, b1, b2, b3, Result.andThen_ok, q9]
  by_cases h0 : z0 = 0
  · by_cases h1 : z1 = 0
    · by_cases h2 : z2 = 0
      · by_cases h3 : z3 = 0 <;> simp [h0, h1, h2, h3, a0, a1, a2, a3, b0, b1, b2, b3, q9]
      · simp [h0, h1, h2, a0, a1, a2, a3, b0, b1, b2, b3, q9]
    · simp [h0, h1, a0, a1, a2, a3, b0, b1, b2, b3, q9]
  · simp [h0, a0, a1, a2, a3, b0, b1, b2, b3, q9]
end Go.Proofs.YtohpbclofcflaaaGreat
