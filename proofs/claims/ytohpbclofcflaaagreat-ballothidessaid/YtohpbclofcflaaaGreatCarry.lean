/- Words: the library's sums, differences and products; the program's chain. -/
import Derived.Test.YtohpbclofcflaaaGreatBe
import Derived.Laws.Externs
import Derived.Shelf.Spec.BitsCarry
import Derived.StillTailTactics
import Derived.Shelf.Bits.Mul64
import Derived.Laws.Bits64b
set_option linter.unusedSimpArgs false
set_option linter.unusedVariables false
namespace Go.Proofs.YtohpbclofcflaaaGreat
open Go.RowKit Go.Deep Go.PlainAid

/-- What is borrowed. -/
def bor (x y b : Nat) : Nat := if x < y + b then 1 else 0
theorem add64 (x y c : Nat) (hc : c ≤ 1) (w : World) :
    (callFunc 105 #[U x, U y, U c]).run Tryz.prog w = .ok (.value (.tuple #[U ((x + y + c) % 18446744073709551616), U ((x + y + c) / 18446744073709551616)])) w := by
  rw [run_callFunc_extern Tryz.func105 (by kernel_rfl) (by kernel_rfl) (by kernel_rfl) (e := add64Entry) (by kernel_rfl), run_add64 x y c (by omega) (by omega) (by omega) (by omega)]
  simp only [Result.andThen]
  congr 5 <;> omega
theorem add64_0 (x y : Nat) (w : World) :
    (callFunc 105 #[U x, U y, .int .u64 0]).run Tryz.prog w = .ok (.value (.tuple #[U ((x + y) % 18446744073709551616), U ((x + y) / 18446744073709551616)])) w := by
  have := add64 x y 0 (by omega) w
  rw [Nat.add_zero] at this
  exact this
theorem sub64 (x y b : Nat) (hb : b ≤ 1) (w : World) :
    (callFunc 103 #[U x, U y, U b]).run Tryz.prog w = .ok (.value (.tuple #[U ((x + 18446744073709551616 - y - b) % 18446744073709551616), U (bor x y b)])) w := by
  rw [run_callFunc_extern Tryz.func103 (by kernel_rfl) (by kernel_rfl) (by kernel_rfl) (e := sub64Entry) (by kernel_rfl), run_sub64 x y b hb]
  rfl
set_option maxRecDepth 100000 in
set_option maxHeartbeats 1000000 in
theorem mul64_any (x y : Nat) (hx : x < 18446744073709551616) (hy : y < 18446744073709551616) (w : World) :
    Calls Tryz.prog 106 #[U x, U y] w fun e w' => e = .returned (.tuple #[U (x * y / 18446744073709551616), U (x * y % 18446744073709551616)]) ∧ w' = w := by
  obtain ⟨bd, bt, bw, hhi⟩ := Lib.mul64_hi x y hx hy
  have ba := Lib.half_mul_le (a := x / 4294967296) (b := y / 4294967296) (by omega) (by omega)
  have bb := Lib.half_mul_le (a := x / 4294967296) (b := y % 4294967296) (by omega) (by omega)
  have bc := Lib.half_mul_le (a := x % 4294967296) (b := y / 4294967296) (by omega) (by omega)
  have ba' : x / 4294967296 * (y / 4294967296) < 18446744073709551616 := by omega
  have bb' : x / 4294967296 * (y % 4294967296) < 18446744073709551616 := by omega
  have bc' : x % 4294967296 * (y / 4294967296) < 18446744073709551616 := by omega
  go_enter Tryz.func106, Tryz.ntmps106
  have bh1 : x / 4294967296 * (y / 4294967296) + (x / 4294967296 * (y % 4294967296) + x % 4294967296 * (y % 4294967296) / 4294967296) / 4294967296 < 18446744073709551616 := by omega
  have bh : x / 4294967296 * (y / 4294967296) + (x / 4294967296 * (y % 4294967296) + x % 4294967296 * (y % 4294967296) / 4294967296) / 4294967296 + ((x / 4294967296 * (y % 4294967296) + x % 4294967296 * (y % 4294967296) / 4294967296) % 4294967296 + x % 4294967296 * (y / 4294967296)) / 4294967296 < 18446744073709551616 := by omega
  go_wp2
  simp only [Mul64.maskN x hx, Mul64.maskN y hy, Mul64.divN, Mul64.mulN, Mul64.addN, Mul64.wrapN _ bd, Mul64.wrapN _ bb', Mul64.wrapN _ bt, Mul64.maskN _ bt, Mul64.wrapN _ bc', Mul64.wrapN _ bw, Mul64.wrapN _ ba', Mul64.wrapN _ bh1, Mul64.wrapN _ bh, Mul64.wrapM (x * y)]
  rw [hhi]
  go_ret2
  exact ⟨rfl, rfl⟩
/-- A product and two words more, in two words. -/
theorem chain_eq {h l a b : Nat} (hl : l < 18446744073709551616) (ha : a < 18446744073709551616) (hb : b < 18446744073709551616) : (h * 18446744073709551616 + l + a + b) / 18446744073709551616 = h + (l + a) / 18446744073709551616 + ((l + a) % 18446744073709551616 + b) / 18446744073709551616 ∧ (h * 18446744073709551616 + l + a + b) % 18446744073709551616 = ((l + a) % 18446744073709551616 + b) % 18446744073709551616 := by
  omega
set_option maxRecDepth 100000 in
set_option maxHeartbeats 1000000 in
theorem chain_any (x y a b : Nat) (hx : x < 18446744073709551616) (hy : y < 18446744073709551616) (ha : a < 18446744073709551616) (hb : b < 18446744073709551616) (w : World) :
    Calls Tryz.prog 99 #[U x, U y, U a, U b] w fun e w' => e = .returned (.tuple #[U ((x * y + a + b) / 18446744073709551616), U ((x * y + a + b) % 18446744073709551616)]) ∧ w' = w := by
  have C := mul64_any x y hx hy
  have hi9 := chain_hi (x := x) (y := y) (a := a) (b := b) hx hy ha hb
  rw [BB_eq] at hi9
  obtain ⟨h, hh⟩ : ∃ h, h = x * y / 18446744073709551616 := ⟨_, rfl⟩
  obtain ⟨l, hl⟩ : ∃ l, l = x * y % 18446744073709551616 := ⟨_, rfl⟩
  have l9 : l < 18446744073709551616 := by omega
  have e : x * y = h * 18446744073709551616 + l := by omega
  obtain ⟨e1, e2⟩ := chain_eq (h := h) l9 ha hb
  rw [← hh, ← hl] at C
  rw [e] at hi9 ⊢
  rw [e1] at hi9
  rw [e1, e2]
  obtain ⟨c1, hc1⟩ : ∃ c, c = (l + a) / 18446744073709551616 := ⟨_, rfl⟩
  obtain ⟨l1, hl1⟩ : ∃ c, c = (l + a) % 18446744073709551616 := ⟨_, rfl⟩
  obtain ⟨c2, hc2⟩ : ∃ c, c = (l1 + b) / 18446744073709551616 := ⟨_, rfl⟩
  obtain ⟨l2, hl2⟩ : ∃ c, c = (l1 + b) % 18446744073709551616 := ⟨_, rfl⟩
  rw [← hc1, ← hl1, ← hc2] at hi9
  rw [← hc1, ← hl1, ← hc2, ← hl2]
  have A1 := add64_0 l a
  have A2 := add64_0 l1 b
  rw [← hc1, ← hl1] at A1
  rw [← hc2, ← hl2] at A2
  obtain ⟨h1, hh1⟩ : ∃ c, c = h + c1 := ⟨_, rfl⟩
  obtain ⟨h2, hh2⟩ : ∃ c, c = h1 + c2 := ⟨_, rfl⟩
  have k1 : (h : Int) + (c1 : Int) = (h1 : Int) := by omega
  have k2 : (h1 : Int) + (c2 : Int) = (h2 : Int) := by omega
  rw [← hh1] at hi9 ⊢
  rw [← hh2] at hi9 ⊢
  have h19 : h1 < 18446744073709551616 := by omega
  clear hh hl e e1 e2 hc1 hl1 hc2 hl2 hh1 hh2
  have C' : Hid (∀ w, Calls Tryz.prog 106 #[U x, U y] w fun e w' => e = .returned (.tuple #[U h, U l]) ∧ w' = w) := C
  clear C
  go_enter Tryz.func99, Tryz.ntmps99
  go_wp2_with fail
  refine (C'.out w).mono ?_
  rintro e w' ⟨rfl, rfl⟩
  go_wp2_with (first | simp only [A1] | simp only [A2])
  go_ret2
  exact ⟨rfl, rfl⟩
end Go.Proofs.YtohpbclofcflaaaGreat
