/- The walk of guess. -/
import Derived.Test.YtlgcnjinmcgacaaDoorCompare
import Derived.Test.YtlgcnjinmcgacaaDoorDivPlain
set_option linter.unusedSimpArgs false
set_option linter.unusedVariables false
namespace Go.Proofs.YtlgcnjinmcgacaaDoor
open Go.RowKit

/-- What a cell of a row holds. -/
theorem Row.cellAt {w : World} {b o : Nat} {l : List Nat} (h : Row w (some ⟨b, o, none⟩) l) (i : Nat) (hi : i < l.length) : w.cell? ⟨b, o + i, none⟩ = some (I (l.getD i 0)) := by
  obtain ⟨b', o', he, hc⟩ := h i hi
  simp only [Option.some.injEq, Addr.mk.injEq, and_true] at he
  obtain ⟨rfl, rfl⟩ := he
  rw [hc, List.getD_eq_getElem?_getD, List.getElem?_eq_getElem hi]; rfl
theorem getD_low {B : Nat} (hB : 0 < B) {l : List Nat} (h : ∀ d ∈ l, d < B) (i : Nat) : l.getD i 0 < B := by
  by_cases hi : i < l.length
  · rw [List.getD_eq_getElem?_getD, List.getElem?_eq_getElem hi]; exact h _ (List.getElem_mem _)
  · rw [List.getD_eq_getElem?_getD, List.getElem?_eq_none (by omega)]; simpa using hB

set_option maxRecDepth 100000 in
set_option maxHeartbeats 2000000 in
theorem guess_any (w : World) (b o cap b2 o2 cap2 K : Nat) (p l : List Nat) (hK : 2 ≤ K) (hKm : K ≤ 2000000) (G : Guess 1000000000 p l (K - 2)) (hp : Row w (some ⟨b, o, none⟩) p) (hl : Row w (some ⟨b2, o2, none⟩) l) :
    Calls Tryd.prog 100 #[.slice (some ⟨b, o, none⟩) (K + 1) cap, .slice (some ⟨b2, o2, none⟩) K cap2] w fun e w' => (∃ q : Nat, e = .returned (.int .i64 (q : Int)) ∧ (q = vl 1000000000 p / vl 1000000000 l ∨ q = vl 1000000000 p / vl 1000000000 l + 1)) ∧ ∃ j, w' = w.drewN j := by
  have lp := G.lp
  have ll := G.ll
  have k2 : K - 2 + 2 = K := by omega
  have k1 : K - 2 + 1 = K - 1 := by omega
  have c1 := hl.cellAt (K - 1) (by omega)
  have c2 := hl.cellAt (K - 2) (by omega)
  have c3 := hp.cellAt K (by omega)
  have c4 := hp.cellAt (K - 1) (by omega)
  have c5 := hp.cellAt (K - 2) (by omega)
  have hi := G.hi (by omega)
  have ht := G.top
  have near := G.near (by omega)
  rw [k2] at hi
  rw [k1] at hi ht
  rw [k2, k1] at near
  have f1 := getD_low (show 0 < 1000000000 by omega) G.low' (K - 1)
  have f2 := getD_low (show 0 < 1000000000 by omega) G.low' (K - 2)
  have f3 := getD_low (show 0 < 1000000000 by omega) G.low K
  have f4 := getD_low (show 0 < 1000000000 by omega) G.low (K - 1)
  have f5 := getD_low (show 0 < 1000000000 by omega) G.low (K - 2)
  clear G hp hl lp ll k1 k2
  generalize l.getD (K - 1) 0 = f at *
  generalize l.getD (K - 2) 0 = g at *
  generalize p.getD K 0 = x2 at *
  generalize p.getD (K - 1) 0 = x1 at *
  generalize p.getD (K - 2) 0 = x0 at *
  have HN : Hid (∀ q, q = ((x2 * 1000000000 + x1) * 1000000000 + x0) / (f * 1000000000 + g) → q = vl 1000000000 p / vl 1000000000 l ∨ q = vl 1000000000 p / vl 1000000000 l + 1) := near
  clear near
  generalize vl 1000000000 p / vl 1000000000 l = R at *
  obtain ⟨two, htwo⟩ : ∃ two, two = x2 * 1000000000 + x1 := ⟨_, rfl⟩
  have et : (x2 : Int) * 1000000000 + (x1 : Int) = (two : Int) := by omega
  have tb : two ≤ f * 1000000000 + 999999999 := by omega
  rw [← htwo] at HN
  have HS : Hid ((two * 1000000000 + x0) / (f * 1000000000 + g) ≤ two / f) := guess_start (by omega) f5
  have tq : two / f < 2000000000 := by
    rw [Nat.div_lt_iff_lt_mul (by omega)]
    omega
  have tm : two % f < f := Nat.mod_lt _ (by omega)
  have te : two / f * f + two % f = two := by rw [Nat.mul_comm]; exact Nat.div_add_mod two f
  have HTE : Hid (two / f * f + two % f = two) := te
  have eq1 : (two : Int) / (f : Int) = ((two / f : Nat) : Int) := by push_cast; rfl
  have eq2 : (two : Int) % (f : Int) = ((two % f : Nat) : Int) := by push_cast; rfl
  have fpos : 0 < f := by omega
  have fpos' : (0 : Int) < (f : Int) := by omega
  have i1 : ((K : Int) - 1).toNat = K - 1 := by omega
  have i2 : ((K : Int) - 2).toNat = K - 2 := by omega
  clear htwo te
  generalize two / f = q0 at *
  generalize two % f = m0 at *
  go_enter Tryd.func100, Tryd.ntmps100
  go_wp2_with fail
  go_quiet (fail)
  have d3 : (w.drewN nq).cell? ⟨b, o + K, none⟩ = some (I x2) := c3
  have d4 : (w.drewN nq).cell? ⟨b, o + (K - 1), none⟩ = some (I x1) := c4
  have d5 : (w.drewN nq).cell? ⟨b, o + (K - 2), none⟩ = some (I x0) := c5
  have HW : Hid (∃ j, w.drewN nq = w.drewN j) := ⟨nq, rfl⟩
  clear c1 c2 c3 c4 c5
  generalize w.drewN nq = w1 at *
  go_wp2_with fail
  go_quiet (fail)
  have e5 : (w1.drewN nq).cell? ⟨b, o + (K - 2), none⟩ = some (I x0) := d5
  have HW1 : Hid (∃ j, w1.drewN nq = w.drewN j) := drewN_ex HW.out nq
  clear d3 d4 d5 HW
  generalize w1.drewN nq = w2 at *
  go_wp2_with fail
  go_quiet (fail)
  have g5 : (w2.drewN nq).cell? ⟨b, o + (K - 2), none⟩ = some (I x0) := e5
  have HW2 : Hid (∃ j, w2.drewN nq = w.drewN j) := drewN_ex HW1.out nq
  clear e5 HW1
  generalize w2.drewN nq = w3 at *
  go_wp2_with fail
  go_loop [9, 10] (fun v9 v10 => ∃ q left : Nat, v9 = .int .i64 (q : Int) ∧ v10 = .int .i64 (left : Int) ∧ q < 2000000000 ∧ left < 3000000000 ∧ q * f + left = two ∧ (two * 1000000000 + x0) / (f * 1000000000 + g) ≤ q) (fun v9 _ => (intOf v9).toNat)
  case atStart => exact ⟨q0, m0, rfl, by first | rfl | rw [eq2], tq, by omega, HTE.out, HS.out⟩
  case round =>
    obtain ⟨q, left, rfl, rfl, hq, hlf, hql, hlow⟩ := hrel
    have htest := guess_test (B := 1000000000) (third := x0) (second := g) hql
    have HLOW : Hid ((two * 1000000000 + x0) / (f * 1000000000 + g) ≤ q) := hlow
    have HQL : Hid (q * f + left = two) := hql
    clear hlow hql
    have hd2 : 0 < f * 1000000000 + g := by omega
    have hqg : q * g ≤ 2000000000 * 1000000000 := Nat.mul_le_mul (by omega) (by omega)
    obtain ⟨z, hz⟩ : ∃ z, z = q * g := ⟨_, rfl⟩
    have ez : (q : Int) * (g : Int) = (z : Int) := by rw [hz]; push_cast; rfl
    rw [← hz] at hqg htest
    clear hz
    by_cases hc : left * 1000000000 + x0 < z
    · have hc' : (left : Int) * 1000000000 + (x0 : Int) < (z : Int) := by omega
      have h1 := guess_low hd2 HLOW.out (htest.1 hc)
      have HL2 : Hid ((two * 1000000000 + x0) / (f * 1000000000 + g) ≤ q - 1) := h1
      have hqpos : 0 < q := by
        rcases Nat.eq_zero_or_pos q with h0 | h0
        · exfalso
          have h2 := htest.1 hc
          rw [h0] at h2
          simp at h2
        · exact h0
      have HQ2 : Hid ((q - 1) * f + (left + f) = two) := by
        show _ = _
        have e : q = (q - 1) + 1 := by omega
        have := HQL.out
        rw [e, Nat.add_mul, Nat.one_mul] at this
        omega
      clear h1 htest
      go_wp2_with fail
      go_round
      case rel => exact ⟨q - 1, left + f, by go_num, by go_num, by omega, by omega, HQ2.out, HL2.out⟩
      case measure => simp [intOf]; omega
    · have hc' : ¬ (left : Int) * 1000000000 + (x0 : Int) < (z : Int) := by omega
      have HE : Hid (q = (two * 1000000000 + x0) / (f * 1000000000 + g)) := guess_end hd2 HLOW.out (fun h => hc (htest.2 h))
      clear htest
      go_wp2_with fail
      go_ret
      exact ⟨⟨q, rfl, HN.out q HE.out⟩, HW2.out⟩
end Go.Proofs.YtlgcnjinmcgacaaDoor
