/- Plain arithmetic on words of 32 bits: turning, half a stir and the way back. No Go text is named here. -/
import Derived.WalkKit
set_option linter.unusedSimpArgs false
set_option linter.unusedVariables false
set_option maxRecDepth 100000
namespace Go.Proofs.YteomefhjglnghaaDoor.F
open Go.RowKit

/-- A word turned to the right by s bits. -/
def rr (s : Nat) (x : UInt32) : UInt32 := UInt32.ofNat (x.toNat * 2 ^ (32 - s) % 2 ^ 32 + x.toNat / 2 ^ s)

theorem ult (x : UInt32) : x.toNat < 4294967296 := x.toNat_lt

theorem or_add (hi lo k x : Nat) (h : hi = 2 ^ k * x) (hl : lo < 2 ^ k) : hi ||| lo = hi + lo := by
  subst h; exact (Nat.two_pow_add_eq_or_of_lt hl x).symm

theorem mul_mod_two (x s : Nat) (hs : s ≤ 32) : x * 2 ^ (32 - s) % 2 ^ 32 = 2 ^ (32 - s) * (x % 2 ^ s) := by
  have e : (2 : Nat) ^ 32 = 2 ^ (32 - s) * 2 ^ s := by rw [← Nat.pow_add]; congr 1; omega
  rw [Nat.mul_comm x, e, Nat.mul_mod_mul_left]

theorem div_lt_two (x s : Nat) (hs : s ≤ 32) (hx : x < 2 ^ 32) : x / 2 ^ s < 2 ^ (32 - s) := by
  rw [Nat.div_lt_iff_lt_mul (Nat.two_pow_pos s), ← Nat.pow_add]
  have : 32 - s + s = 32 := by omega
  rw [this]; exact hx

theorem rr_lt (x s : Nat) (hs : s ≤ 32) (hx : x < 2 ^ 32) : x * 2 ^ (32 - s) % 2 ^ 32 + x / 2 ^ s < 2 ^ 32 := by
  have h1 := mul_mod_two x s hs
  have h2 := div_lt_two x s hs hx
  have h3 : x % 2 ^ s < 2 ^ s := Nat.mod_lt _ (Nat.two_pow_pos s)
  have e : (2 : Nat) ^ 32 = 2 ^ (32 - s) * 2 ^ s := by rw [← Nat.pow_add]; congr 1; omega
  have h4 : 2 ^ (32 - s) * (x % 2 ^ s) + 2 ^ (32 - s) ≤ 2 ^ (32 - s) * 2 ^ s := by
    rw [← Nat.mul_succ]; exact Nat.mul_le_mul_left _ h3
  omega

theorem rr_toNat (s : Nat) (hs : s ≤ 32) (x : UInt32) : (rr s x).toNat = x.toNat * 2 ^ (32 - s) % 2 ^ 32 + x.toNat / 2 ^ s := by
  unfold rr
  rw [UInt32.toNat_ofNat']
  exact Nat.mod_eq_of_lt (rr_lt x.toNat s hs (ult x))

theorem rr_bits (s : Nat) (hs : s ≤ 32) (x : UInt32) (A B : Int) (hA : A = ((x.toNat * 2 ^ (32 - s) % 2 ^ 32 : Nat) : Int)) (hB : B = ((x.toNat / 2 ^ s : Nat) : Int)) :
    bits .or .u32 A B = ((rr s x).toNat : Int) := by
  subst hA hB
  have hx := ult x
  have hlt := rr_lt x.toNat s hs hx
  rw [rr_toNat s hs, u32_or_nat _ _ (by omega) (by omega)]
  rw [or_add _ _ _ _ (mul_mod_two x.toNat s hs) (div_lt_two x.toNat s hs hx)]

/-- Turned, and turned on till it has come round. -/
theorem rr_rr (s : Nat) (h0 : s ≤ 32) (x : UInt32) : rr (32 - s) (rr s x) = x := by
  apply UInt32.toNat_inj.1
  rw [rr_toNat _ (by omega), rr_toNat s h0]
  have e : 32 - (32 - s) = s := by omega
  rw [e]
  have hx := ult x
  have h1 := mul_mod_two x.toNat s h0
  have h2 := div_lt_two x.toNat s h0 hx
  have h3 : x.toNat % 2 ^ s < 2 ^ s := Nat.mod_lt _ (Nat.two_pow_pos s)
  have e2 : (2 : Nat) ^ 32 = 2 ^ (32 - s) * 2 ^ s := by rw [← Nat.pow_add]; congr 1; omega
  rw [h1, e2]
  generalize hq : x.toNat / 2 ^ s = q at *
  generalize hr : x.toNat % 2 ^ s = r at *
  have hd := Nat.div_add_mod x.toNat (2 ^ s)
  rw [hq, hr] at hd
  have hP : 0 < 2 ^ (32 - s) := Nat.two_pow_pos _
  generalize 2 ^ (32 - s) = P at *
  generalize 2 ^ s = S at *
  have a1 : (P * r + q) / P = r := by
    rw [Nat.add_comm, Nat.add_mul_div_left _ _ hP, Nat.div_eq_of_lt h2, Nat.zero_add]
  have a2 : (P * r + q) * S % (P * S) = q * S := by
    rw [Nat.mul_mod_mul_right, Nat.mul_add_mod, Nat.mod_eq_of_lt h2]
  rw [a1, a2, Nat.mul_comm q, hd]

/-- Sum, difference and exclusive-or of words, under names of our own (so that no rule on numbers takes them apart). -/
def uadd (x y : UInt32) : UInt32 := x + y
def usub (x y : UInt32) : UInt32 := x - y
def uxor (x y : UInt32) : UInt32 := x ^^^ y

theorem add_u (x y : UInt32) : ((x.toNat : Int) + (y.toNat : Int)) % 4294967296 = ((uadd x y).toNat : Int) := by
  unfold uadd; rw [UInt32.toNat_add]; omega
theorem sub_u (x y : UInt32) : ((x.toNat : Int) - (y.toNat : Int)) % 4294967296 = ((usub x y).toNat : Int) := by
  have hx := ult x
  have hy := ult y
  unfold usub; rw [UInt32.toNat_sub]; omega
theorem xor_u (x y : UInt32) : bits .xor .u32 (x.toNat : Int) (y.toNat : Int) = ((uxor x y).toNat : Int) := by
  unfold uxor; rw [u32_xor_nat _ _ (ult x) (ult y), UInt32.toNat_xor]
theorem uxor_back (a b : UInt32) : uxor (uxor a b) b = a := by unfold uxor; rw [UInt32.xor_assoc, UInt32.xor_self, UInt32.xor_zero]
theorem uadd_back (a b : UInt32) : usub (uadd a b) b = a := by unfold usub uadd; exact UInt32.add_sub_cancel ..
theorem usub_back (a b : UInt32) : uadd (usub a b) b = a := by unfold usub uadd; exact UInt32.sub_add_cancel ..
theorem uadd_assoc (a b c : UInt32) : uadd (uadd a b) c = uadd a (uadd b c) := by unfold uadd; exact UInt32.add_assoc ..

/-- Four words. -/
structure Four where
  a : UInt32
  b : UInt32
  c : UInt32
  d : UInt32

/-- Half a stir. -/
def hf (tD tB : Nat) (p : Four) (x : UInt32) : Four :=
  let a := uadd p.a (uadd p.b x)
  let d := rr tD (uxor p.d a)
  let c := uadd p.c d
  { a := a, b := rr tB (uxor p.b c), c := c, d := d }
/-- Half a stir taken back. -/
def unhf (tD tB : Nat) (p : Four) (x : UInt32) : Four :=
  let b := uxor (rr (32 - tB) p.b) p.c
  let c := usub p.c p.d
  let d := uxor (rr (32 - tD) p.d) p.a
  { a := usub p.a (uadd b x), b := b, c := c, d := d }

theorem unhf_hf (tD tB : Nat) (hD : tD ≤ 32) (hB : tB ≤ 32) (p : Four) (x : UInt32) : unhf tD tB (hf tD tB p x) x = p := by
  obtain ⟨a, b, c, d⟩ := p
  simp only [unhf, hf, rr_rr tD hD, rr_rr tB hB, uxor_back, uadd_back]
theorem hf_unhf (tD tB : Nat) (hD : tD ≤ 32) (hB : tB ≤ 32) (p : Four) (x : UInt32) : hf tD tB (unhf tD tB p x) x = p := by
  obtain ⟨a, b, c, d⟩ := p
  have eD : ∀ y, rr tD (rr (32 - tD) y) = y := fun y => by have := rr_rr (32 - tD) (by omega) y; rwa [show 32 - (32 - tD) = tD by omega] at this
  have eB : ∀ y, rr tB (rr (32 - tB) y) = y := fun y => by have := rr_rr (32 - tB) (by omega) y; rwa [show 32 - (32 - tB) = tB by omega] at this
  simp only [unhf, hf, usub_back, uxor_back, eD, eB]
end Go.Proofs.YteomefhjglnghaaDoor.F
