/- Plain: Euclid's way, many steps at once, as far as the first digits tell it for certain. -/
import Derived.Test.YtlgcnjinmcgacaaDoorDigits
set_option linter.unusedSimpArgs false
set_option linter.unusedVariables false
namespace Go.Proofs.YtlgcnjinmcgacaaDoor

/-- A number with a sign. -/
def sI (sg : Bool) (z : Nat) : Int := if sg then (z : Int) else -(z : Int)
theorem sI_add (sg : Bool) (x y : Nat) : sI sg (x + y) = sI sg x + sI sg y := by cases sg <;> simp [sI] <;> omega
theorem sI_mul (sg : Bool) (q x : Nat) : sI sg (q * x) = (q : Int) * sI sg x := by
  cases sg
  · simp [sI]; grind
  · simp [sI]
theorem sI_not (sg : Bool) (x : Nat) : sI (!sg) x = -(sI sg x) := by cases sg <;> simp [sI]
/-- Two rows on Euclid's way: heads h and l, true numbers rh and rl. -/
structure Leh (n o a b : Nat) (sg : Bool) (hx hy lx ly h l rh rl : Nat) : Prop where
  eh : (h : Int) = sI sg hx * (a : Int) - sI sg hy * (b : Int)
  el : (l : Int) = -(sI sg lx) * (a : Int) + sI sg ly * (b : Int)
  erh : (rh : Int) = sI sg hx * (n : Int) - sI sg hy * (o : Int)
  erl : (rl : Int) = -(sI sg lx) * (n : Int) + sI sg ly * (o : Int)
  xy : lx ≤ ly
  tot : hy * l + ly * h = a
  ord : l ≤ h
  ge : rl ≤ rh
  gcd : Nat.gcd rh rl = Nat.gcd n o
  bx : hx ≤ 1000000000 ∧ hy ≤ 1000000000 ∧ lx ≤ 1000000000 ∧ ly ≤ 1000000000
  hb : h < 1000000000000000000
  st : (hx = 1 ∧ hy = 0 ∧ lx = 0 ∧ ly = 1 ∧ rh = n ∧ rl = o) ∨ (0 < hy ∧ hx ≤ hy ∧ rh + rl ≤ n)
theorem Leh.start {n o a b : Nat} (hba : b ≤ a) (hon : o ≤ n) (ha : a < 1000000000000000000) : Leh n o a b true 1 0 0 1 a b n o :=
  ⟨by simp [sI], by simp [sI], by simp [sI], by simp [sI], by omega, by omega, hba, hon, rfl, by omega, ha, Or.inl ⟨rfl, rfl, rfl, rfl, rfl, rfl⟩⟩
/-- The next row's factors. -/
theorem Leh.nx_le {n o a b : Nat} {sg : Bool} {hx hy lx ly h l rh rl : Nat} (H : Leh n o a b sg hx hy lx ly h l rh rl) (q : Nat) (hq : 1 ≤ q) : hx + q * lx ≤ hy + q * ly := by
  have h1 : q * lx ≤ q * ly := Nat.mul_le_mul_left _ H.xy
  rcases H.st with ⟨rfl, rfl, rfl, rfl, _, _⟩ | ⟨_, h2, _⟩
  · omega
  · omega
theorem Leh.tot_next {n o a b : Nat} {sg : Bool} {hx hy lx ly h l rh rl : Nat} (H : Leh n o a b sg hx hy lx ly h l rh rl) (q r : Nat) (hq : h = l * q + r) : (hy + q * ly) * l + ly * r = a := by
  rw [← H.tot, hq]; grind
theorem Leh.ny_lt {n o a b : Nat} {sg : Bool} {hx hy lx ly h l rh rl : Nat} (H : Leh n o a b sg hx hy lx ly h l rh rl) (q r : Nat) (hq : h = l * q + r) (hl : 0 < l) : hy + q * ly ≤ a := by
  have h1 := H.tot_next q r hq
  have h2 : (hy + q * ly) * 1 ≤ (hy + q * ly) * l := Nat.mul_le_mul_left _ hl
  omega
/-- A row that is sure is right: it is not below 0, and not above the row ahead of it. -/
theorem Leh.step {n o a b : Nat} {sg : Bool} {hx hy lx ly h l rh rl : Nat} (H : Leh n o a b sg hx hy lx ly h l rh rl) (S n' o' : Nat) (hn : n = a * S + n') (ho : o = b * S + o') (hn' : n' < S) (ho' : o' < S) (ha : a < 1000000000000000000)
    (q r : Nat) (hq : h = l * q + r) (hr : r < l) (c1 : hy + q * ly ≤ r) (c2 : ly + (hy + q * ly) + r ≤ l) (hpos : 0 < o) :
    ∃ rn, Leh n o a b (!sg) lx ly (hx + q * lx) (hy + q * ly) l r rl rn := by
  have hq1 : 1 ≤ q := by
    rcases Nat.eq_zero_or_pos q with h0 | h0
    · subst h0
      have := H.ord
      omega
    · exact h0
  have hnx := H.nx_le q hq1
  have htot := H.tot_next q r hq
  have hxyl := H.xy
  obtain ⟨nx, hnxe⟩ : ∃ nx, nx = hx + q * lx := ⟨_, rfl⟩
  obtain ⟨ny, hnye⟩ : ∃ ny, ny = hy + q * ly := ⟨_, rfl⟩
  have eX : sI sg nx = sI sg hx + (q : Int) * sI sg lx := by rw [hnxe, sI_add, sI_mul]
  have eY : sI sg ny = sI sg hy + (q : Int) * sI sg ly := by rw [hnye, sI_add, sI_mul]
  rw [← hnxe, ← hnye] at hnx
  rw [← hnye] at htot c1 c2
  rw [← hnxe, ← hnye]
  -- the next head and the next number
  have hr2 : (r : Int) = (h : Int) - (q : Int) * (l : Int) := by rw [hq]; push_cast; grind
  have er : (r : Int) = sI sg nx * (a : Int) - sI sg ny * (b : Int) := by
    rw [hr2, H.eh, H.el, eX, eY]; grind
  obtain ⟨R, hR⟩ : ∃ R : Int, R = (rh : Int) - (q : Int) * (rl : Int) := ⟨_, rfl⟩
  have eR : R = sI sg nx * (n : Int) - sI sg ny * (o : Int) := by
    rw [hR, H.erh, H.erl, eX, eY]; grind
  have hnI : (n : Int) = (a : Int) * (S : Int) + (n' : Int) := by rw [hn]; push_cast; rfl
  have hoI : (o : Int) = (b : Int) * (S : Int) + (o' : Int) := by rw [ho]; push_cast; rfl
  have eR2 : R = (r : Int) * (S : Int) + (sI sg nx * (n' : Int) - sI sg ny * (o' : Int)) := by
    rw [eR, er, hnI, hoI]; grind
  have kS : ∀ z m : Nat, m < S → (z : Int) * (m : Int) ≤ (z : Int) * (S : Int) := fun z m hm => Int.mul_le_mul_of_nonneg_left (by omega) (by omega)
  have kN : ∀ z m : Nat, 0 ≤ (z : Int) * (m : Int) := fun z m => Int.mul_nonneg (by omega) (by omega)
  have kM : ∀ x y : Nat, x ≤ y → (x : Int) * (S : Int) ≤ (y : Int) * (S : Int) := fun x y hxy => Int.mul_le_mul_of_nonneg_right (by omega) (by omega)
  have hR0 : 0 ≤ R := by
    rw [eR2]
    have h1 := kM ny r c1
    cases sg
    · simp only [sI, Bool.false_eq_true, if_false]
      have h2 := kS nx n' hn'
      have h3 := kM nx ny hnx
      have h4 := kN ny o'
      grind
    · simp only [sI, if_true]
      have h2 := kS ny o' ho'
      have h4 := kN nx n'
      grind
  have eRL : (rl : Int) = (l : Int) * (S : Int) + (-(sI sg lx) * (n' : Int) + sI sg ly * (o' : Int)) := by
    rw [H.erl, H.el, hnI, hoI]; grind
  have hRl : R ≤ (rl : Int) := by
    rw [eR2, eRL]
    have h1 : ((ly + ny : Nat) : Int) * (S : Int) + (r : Int) * (S : Int) ≤ (l : Int) * (S : Int) := by
      have := kM (ly + ny + r) l c2
      push_cast at this ⊢
      grind
    cases sg
    · simp only [sI, Bool.false_eq_true, if_false]
      have h2 := kS ly o' ho'
      have h3 := kS ny o' ho'
      have h4 := kN lx n'
      have h5 := kN nx n'
      push_cast at h1
      grind
    · simp only [sI, if_true]
      have h2 := kS lx n' hn'
      have h3 := kS nx n' hn'
      have h4 := kN ly o'
      have h5 := kN ny o'
      have h6 := kM lx ly hxyl
      have h7 := kM nx ny hnx
      push_cast at h1
      grind
  obtain ⟨rn, hrn⟩ := Int.eq_ofNat_of_zero_le hR0
  have hrhN : rh = rl * q + rn := by
    have : (rh : Int) = (q : Int) * (rl : Int) + (rn : Int) := by omega
    have h2 : ((rh : Nat) : Int) = ((rl * q + rn : Nat) : Int) := by rw [this]; push_cast; grind
    exact Int.ofNat_inj.1 h2
  have hrl : rn ≤ rl := by omega
  have hg : Nat.gcd rl rn = Nat.gcd n o := by
    rw [← H.gcd, hrhN, Nat.gcd_comm (rl * q + rn) rl, Nat.add_comm, Nat.gcd_add_mul_left_right]
  have hny9 : ny < 1000000000 := by
    by_cases hc : ny < 1000000000
    · exact hc
    · exfalso
      have h1 : 1000000000 * 1000000000 ≤ ny * ny := Nat.mul_le_mul (by omega) (by omega)
      have h2 : ny * ny ≤ ny * l := Nat.mul_le_mul_left _ (by omega)
      have h3 : ny * l ≤ a := by omega
      omega
  have hbx := H.bx
  have hhb := H.hb
  have hord := H.ord
  refine ⟨rn, ⟨?_, ?_, ?_, ?_, hnx, ?_, by omega, hrl, hg, by omega, by omega, Or.inr ?_⟩⟩
  · rw [H.el, sI_not, sI_not]; grind
  · rw [er, sI_not, sI_not]; grind
  · rw [H.erl, sI_not, sI_not]; grind
  · rw [← hrn, eR, sI_not, sI_not]; grind
  · rw [← htot]; grind
  · rcases H.st with ⟨e1, e2, e3, e4, e5, e6⟩ | ⟨g1, g2, g3⟩
    · refine ⟨by omega, by omega, ?_⟩
      rw [e5] at hrhN
      have h1 : rl * 1 ≤ rl * q := Nat.mul_le_mul_left _ hq1
      omega
    · refine ⟨?_, H.xy, ?_⟩
      · rcases Nat.eq_zero_or_pos ly with h0 | h0
        · exfalso
          have h1 := H.el
          have h2 : lx = 0 := by have := H.xy; omega
          rw [h0, h2] at h1
          have h3 : sI sg 0 = 0 := by cases sg <;> simp [sI]
          rw [h3] at h1
          simp at h1
          omega
        · exact h0
      · have h1 : rl * 1 ≤ rl * q := Nat.mul_le_mul_left _ hq1
        omega
end Go.Proofs.YtlgcnjinmcgacaaDoor
