/- Plain: division as on paper, limb by limb; a guess of a limb is right, or one too high. -/
import Derived.Test.YtflabehlaiocaaaDoorBaseA
import Derived.Test.YtflabehlaiocaaaDoorKb
set_option linter.unusedSimpArgs false
set_option linter.unusedVariables false
namespace Go.Proofs.YtflabehlaiocaaaDoor

/-- The three first limbs against the two first ones of the divisor. -/
theorem guess_near {B P D n3 d2 E pl dl : Nat} (hB : 2 ≤ B) (hE : 0 < E) (hP : P = n3 * E + pl) (hpl : pl < E) (hD : D = d2 * E + dl) (hdl : dl < E) (hd2 : B ≤ d2) (hPD : P < D * B) :
    n3 / d2 = P / D ∨ n3 / d2 = P / D + 1 := by
  have hDpos : 0 < D := by
    have : 0 < d2 * E := Nat.mul_pos (by omega) hE
    omega
  have hlow : P / D ≤ n3 / d2 := by
    rw [Nat.le_div_iff_mul_le (by omega)]
    have h1 : P / D * D ≤ P := Nat.div_mul_le_self P D
    have h2 : P / D * (d2 * E) ≤ P / D * D := Nat.mul_le_mul_left _ (by omega)
    have h3 : (P / D * d2) * E < (n3 + 1) * E := by
      have e1 : (P / D * d2) * E = P / D * (d2 * E) := Nat.mul_assoc _ _ _
      have e2 : (n3 + 1) * E = n3 * E + E := by rw [Nat.add_mul, Nat.one_mul]
      omega
    have := Nat.lt_of_mul_lt_mul_right h3
    omega
  have hn3 : n3 < (d2 + 1) * B := by
    have h1 : n3 * E < ((d2 + 1) * B) * E := by
      have e1 : ((d2 + 1) * B) * E = (d2 * E + E) * B := by grind
      have h2 : D * B ≤ (d2 * E + E) * B := Nat.mul_le_mul_right _ (by omega)
      omega
    exact Nat.lt_of_mul_lt_mul_right h1
  have hh : n3 / d2 ≤ d2 := by
    have h1 : n3 / d2 < B + 1 := by
      rw [Nat.div_lt_iff_lt_mul (by omega)]
      have e1 : (d2 + 1) * B = d2 * B + B := by grind
      have e2 : (B + 1) * d2 = d2 * B + d2 := by grind
      omega
    omega
  have hup : n3 / d2 ≤ P / D + 1 := by
    rcases Nat.eq_zero_or_pos (n3 / d2) with h0 | h0
    · rw [h0]; exact Nat.zero_le _
    · have : n3 / d2 - 1 ≤ P / D := by
        rw [Nat.le_div_iff_mul_le hDpos]
        obtain ⟨t, ht⟩ : ∃ t, n3 / d2 = t + 1 := ⟨n3 / d2 - 1, (Nat.sub_add_cancel h0).symm⟩
        rw [ht]
        have h1 : (t + 1) * d2 ≤ n3 := by rw [← ht]; exact Nat.div_mul_le_self _ _
        have h2 : t * (d2 + 1) ≤ n3 := by
          have e1 : t * (d2 + 1) = t * d2 + t := by grind
          have e2 : (t + 1) * d2 = t * d2 + d2 := by grind
          omega
        have h3 : t * D ≤ t * ((d2 + 1) * E) := Nat.mul_le_mul_left _ (by
          have : (d2 + 1) * E = d2 * E + E := by grind
          omega)
        have h4 : t * ((d2 + 1) * E) = (t * (d2 + 1)) * E := (Nat.mul_assoc _ _ _).symm
        have h5 : (t * (d2 + 1)) * E ≤ n3 * E := Nat.mul_le_mul_right _ h2
        have : t + 1 - 1 = t := by omega
        rw [this]; omega
      exact Nat.sub_le_iff_le_add.1 this
  clear hP hD hn3 hh
  generalize P / D = q at *
  generalize n3 / d2 = h at *
  omega

/-- A number's two and three first limbs. -/
theorem top_two {B : Nat} (l : List Nat) (k : Nat) (hk : l.length = k + 2) (hl : ∀ d ∈ l, d < B) : vl B l = (l.getD (k + 1) 0 * B + l.getD k 0) * B ^ k + vl B (l.take k) ∧ vl B (l.take k) < B ^ k := by
  have h1 := vl_take_succ B l (k + 1)
  have h2 := vl_take_succ B l k
  rw [List.take_of_length_le (by omega)] at h1
  have h3 := vl_lt B (l.take k) (fun d hd => hl d (List.mem_of_mem_take hd))
  rw [List.length_take, Nat.min_eq_left (by omega)] at h3
  refine ⟨?_, h3⟩
  rw [h1, h2, Nat.pow_succ]
  grind
theorem top_three {B : Nat} (l : List Nat) (k : Nat) (hk : l.length = k + 3) (hl : ∀ d ∈ l, d < B) : vl B l = ((l.getD (k + 2) 0 * B + l.getD (k + 1) 0) * B + l.getD k 0) * B ^ k + vl B (l.take k) ∧ vl B (l.take k) < B ^ k := by
  have h0 := vl_take_succ B l (k + 2)
  have h1 := vl_take_succ B l (k + 1)
  have h2 := vl_take_succ B l k
  rw [List.take_of_length_le (by omega)] at h0
  have h3 := vl_lt B (l.take k) (fun d hd => hl d (List.mem_of_mem_take hd))
  rw [List.length_take, Nat.min_eq_left (by omega)] at h3
  refine ⟨?_, h3⟩
  rw [h0, h1, h2, Nat.pow_succ, Nat.pow_succ]
  grind
/-- What the guess is reckoned of. -/
structure Guess (B : Nat) (p l : List Nat) (k : Nat) : Prop where
  lp : p.length = k + 3
  ll : l.length = k + 2
  low : ∀ d ∈ p, d < B
  low' : ∀ d ∈ l, d < B
  top : l.getD (k + 1) 0 ≠ 0
  lt : vl B p < vl B l * B
theorem Guess.hi {B : Nat} {p l : List Nat} {k : Nat} (h : Guess B p l k) (hB : 2 ≤ B) : p.getD (k + 2) 0 ≤ l.getD (k + 1) 0 := by
  obtain ⟨e1, g1⟩ := top_three p k h.lp h.low
  obtain ⟨e2, g2⟩ := top_two l k h.ll h.low'
  have h3 := h.lt
  generalize p.getD (k + 2) 0 = x at *
  generalize p.getD (k + 1) 0 = x1 at *
  generalize p.getD k 0 = x0 at *
  generalize l.getD (k + 1) 0 = y at *
  have hy0 : l.getD k 0 < B := by
    have hk : k < l.length := by rw [h.ll]; omega
    rw [List.getD_eq_getElem?_getD, List.getElem?_eq_getElem hk]; exact h.low' _ (List.getElem_mem _)
  generalize l.getD k 0 = y0 at *
  by_cases hc : x ≤ y
  · exact hc
  · exfalso
    have hE : 0 < B ^ k := Nat.pow_pos (by omega)
    generalize B ^ k = E at *
    have h4 : vl B l < (y * B + B) * E := by
      rw [e2]
      have : (y * B + y0 + 1) * E ≤ (y * B + B) * E := Nat.mul_le_mul_right _ (by omega)
      have e : (y * B + y0 + 1) * E = (y * B + y0) * E + E := by grind
      omega
    have h5 : vl B l * B < ((y * B + B) * E) * B := Nat.mul_lt_mul_of_pos_right h4 (by omega)
    have h6 : ((y + 1) * B * B) * E ≤ vl B p := by
      rw [e1]
      have : ((y + 1) * B * B) * E ≤ ((x * B + x1) * B + x0) * E := Nat.mul_le_mul_right _ (by
        have a1 : (y + 1) * B * B ≤ x * B * B := Nat.mul_le_mul_right _ (Nat.mul_le_mul_right _ (by omega))
        have a2 : (x * B + x1) * B = x * B * B + x1 * B := by grind
        omega)
      omega
    have e : ((y * B + B) * E) * B = ((y + 1) * B * B) * E := by grind
    omega
theorem Guess.near {B : Nat} {p l : List Nat} {k : Nat} (h : Guess B p l k) (hB : 2 ≤ B) (q : Nat)
    (hq : q = ((p.getD (k + 2) 0 * B + p.getD (k + 1) 0) * B + p.getD k 0) / (l.getD (k + 1) 0 * B + l.getD k 0)) : q = vl B p / vl B l ∨ q = vl B p / vl B l + 1 := by
  obtain ⟨e1, g1⟩ := top_three p k h.lp h.low
  obtain ⟨e2, g2⟩ := top_two l k h.ll h.low'
  rw [hq]
  refine guess_near hB (Nat.pow_pos (by omega)) e1 g1 e2 g2 ?_ h.lt
  have := h.top
  have h1 : 1 * B ≤ l.getD (k + 1) 0 * B := Nat.mul_le_mul_right _ (by omega)
  omega
/-- The guess while it is lowered: it is not below what it ends at. -/
theorem guess_test {B q left two third first second : Nat} (h : q * first + left = two) : (left * B + third < q * second) ↔ (two * B + third < q * (first * B + second)) := by
  subst h
  have e1 : (q * first + left) * B = q * (first * B) + left * B := by grind
  have e2 : q * (first * B + second) = q * (first * B) + q * second := by grind
  rw [e1, e2]; omega
theorem guess_low {q n3 d2 : Nat} (hd : 0 < d2) (h1 : n3 / d2 ≤ q) (h2 : n3 < q * d2) : n3 / d2 ≤ q - 1 := by
  have : n3 / d2 < q := by rw [Nat.div_lt_iff_lt_mul hd]; exact h2
  omega
theorem guess_end {q n3 d2 : Nat} (hd : 0 < d2) (h1 : n3 / d2 ≤ q) (h2 : ¬ n3 < q * d2) : q = n3 / d2 := by
  have : q ≤ n3 / d2 := by rw [Nat.le_div_iff_mul_le hd]; omega
  omega
theorem guess_start {B two third first second : Nat} (hf : 0 < first) (ht : third < B) : (two * B + third) / (first * B + second) ≤ two / first := by
  have hpos : 0 < first * B := Nat.mul_pos hf (by omega)
  refine Nat.le_of_lt_succ ?_
  rw [Nat.div_lt_iff_lt_mul (by omega)]
  have h1 : two < (two / first + 1) * first := by
    have := Nat.mod_add_div two first
    have h2 := Nat.mod_lt two hf
    have e : (two / first + 1) * first = first * (two / first) + first := by grind
    omega
  have h3 : (two + 1) * B ≤ ((two / first + 1) * first) * B := Nat.mul_le_mul_right _ h1
  have e1 : (two + 1) * B = two * B + B := by grind
  have e2 : (two / first).succ * (first * B + second) = ((two / first + 1) * first) * B + (two / first + 1) * second := by
    show (two / first + 1) * (first * B + second) = _
    grind
  rw [e2]; omega
end Go.Proofs.YtflabehlaiocaaaDoor

/- The walk of guess. -/
set_option linter.unusedSimpArgs false
set_option linter.unusedVariables false
namespace Go.Proofs.YtflabehlaiocaaaDoor
open Go.RowKit

/-- What a cell of a row holds. -/
theorem Row.cellAt {w : World} {b o : Nat} {l : List Nat} (h : Row w (some ⟨b, o, none⟩) l) (i : Nat) (hi : i < l.length) : w.cell? ⟨b, o + i, none⟩ = some (I (l.getD i 0)) := by
  obtain ⟨b', o', he, hc⟩ := h i hi
  simp only [Option.some.injEq, Addr.mk.injEq, and_true] at he
  obtain ⟨rfl, rfl⟩ := he
  rw [hc, List.getD_eq_getElem?_getD, List.getElem?_eq_getElem hi]; rfl
theorem getD_low {B : Nat} (hB : 0 < B) {l : List Nat} (h : ∀ d ∈ l, d < B) (i : Nat) : l.getD i 0 < B := by
  by_cases hi : i < l.length
  · rw [List.getD_eq_getElem?_getD, List.getElem?_eq_getElem hi]; exact h _ (List.getElem_mem _)
  · rw [List.getD_eq_getElem?_getD, List.getElem?_eq_none (by omega)]; simpa using hB

set_option maxRecDepth 100000 in
set_option maxHeartbeats 2000000 in
theorem guess_any (w : World) (b o cap b2 o2 cap2 K : Nat) (p l : List Nat) (hK : 2 ≤ K) (hKm : K ≤ 2000000) (G : Guess 1000000000 p l (K - 2)) (hp : Row w (some ⟨b, o, none⟩) p) (hl : Row w (some ⟨b2, o2, none⟩) l) :
    Calls Tryd.prog 73 #[.slice (some ⟨b, o, none⟩) (K + 1) cap, .slice (some ⟨b2, o2, none⟩) K cap2] w fun e w' => (∃ q : Nat, e = .returned (.int .i64 (q : Int)) ∧ (q = vl 1000000000 p / vl 1000000000 l ∨ q = vl 1000000000 p / vl 1000000000 l + 1)) ∧ ∃ j, w' = w.drewN j := by
  have lp := G.lp
  have ll := G.ll
  have k2 : K - 2 + 2 = K := by omega
  have k1 : K - 2 + 1 = K - 1 := by omega
  have c1 := hl.cellAt (K - 1) (by omega)
  have c2 := hl.cellAt (K - 2) (by omega)
  have c3 := hp.cellAt K (by omega)
  have c4 := hp.cellAt (K - 1) (by omega)
  have c5 := hp.cellAt (K - 2) (by omega)
  have hi := G.hi (by omega)
  have ht := G.top
  have near := G.near (by omega)
  rw [k2] at hi
  rw [k1] at hi ht
  rw [k2, k1] at near
  have f1 := getD_low (show 0 < 1000000000 by omega) G.low' (K - 1)
  have f2 := getD_low (show 0 < 1000000000 by omega) G.low' (K - 2)
  have f3 := getD_low (show 0 < 1000000000 by omega) G.low K
  have f4 := getD_low (show 0 < 1000000000 by omega) G.low (K - 1)
  have f5 := getD_low (show 0 < 1000000000 by omega) G.low (K - 2)
  clear G hp hl lp ll k1 k2
  generalize l.getD (K - 1) 0 = f at *
  generalize l.getD (K - 2) 0 = g at *
  generalize p.getD K 0 = x2 at *
  generalize p.getD (K - 1) 0 = x1 at *
  generalize p.getD (K - 2) 0 = x0 at *
  have HN : Hid (∀ q, q = ((x2 * 1000000000 + x1) * 1000000000 + x0) / (f * 1000000000 + g) → q = vl 1000000000 p / vl 1000000000 l ∨ q = vl 1000000000 p / vl 1000000000 l + 1) := near
  clear near
  generalize vl 1000000000 p / vl 1000000000 l = R at *
  obtain ⟨two, htwo⟩ : ∃ two, two = x2 * 1000000000 + x1 := ⟨_, rfl⟩
  have et : (x2 : Int) * 1000000000 + (x1 : Int) = (two : Int) := by omega
  have tb : two ≤ f * 1000000000 + 999999999 := by omega
  rw [← htwo] at HN
  have HS : Hid ((two * 1000000000 + x0) / (f * 1000000000 + g) ≤ two / f) := guess_start (by omega) f5
  have tq : two / f < 2000000000 := by
    rw [Nat.div_lt_iff_lt_mul (by omega)]
    omega
  have tm : two % f < f := Nat.mod_lt _ (by omega)
  have te : two / f * f + two % f = two := by rw [Nat.mul_comm]; exact Nat.div_add_mod two f
  have HTE : Hid (two / f * f + two % f = two) := te
  have eq1 : (two : Int) / (f : Int) = ((two / f : Nat) : Int) := by push_cast; rfl
  have eq2 : (two : Int) % (f : Int) = ((two % f : Nat) : Int) := by push_cast; rfl
  have fpos : 0 < f := by omega
  have fpos' : (0 : Int) < (f : Int) := by omega
  have i1 : ((K : Int) - 1).toNat = K - 1 := by omega
  have i2 : ((K : Int) - 2).toNat = K - 2 := by omega
  clear htwo te
  generalize two / f = q0 at *
  generalize two % f = m0 at *
  go_enter Tryd.func73, Tryd.ntmps73
  go_wp2_with fail
  go_quiet (fail)
  have d3 : (w.drewN nq).cell? ⟨b, o + K, none⟩ = some (I x2) := c3
  have d4 : (w.drewN nq).cell? ⟨b, o + (K - 1), none⟩ = some (I x1) := c4
  have d5 : (w.drewN nq).cell? ⟨b, o + (K - 2), none⟩ = some (I x0) := c5
  have HW : Hid (∃ j, w.drewN nq = w.drewN j) := ⟨nq, rfl⟩
  clear c1 c2 c3 c4 c5
  generalize w.drewN nq = w1 at *
  go_wp2_with fail
  go_quiet (fail)
  have e5 : (w1.drewN nq).cell? ⟨b, o + (K - 2), none⟩ = some (I x0) := d5
  have HW1 : Hid (∃ j, w1.drewN nq = w.drewN j) := drewN_ex HW.out nq
  clear d3 d4 d5 HW
  generalize w1.drewN nq = w2 at *
  go_wp2_with fail
  go_quiet (fail)
  have g5 : (w2.drewN nq).cell? ⟨b, o + (K - 2), none⟩ = some (I x0) := e5
  have HW2 : Hid (∃ j, w2.drewN nq = w.drewN j) := drewN_ex HW1.out nq
  clear e5 HW1
  generalize w2.drewN nq = w3 at *
  go_wp2_with fail
  go_loop [9, 10] (fun v9 v10 => ∃ q left : Nat, v9 = .int .i64 (q : Int) ∧ v10 = .int .i64 (left : Int) ∧ q < 2000000000 ∧ left < 3000000000 ∧ q * f + left = two ∧ (two * 1000000000 + x0) / (f * 1000000000 + g) ≤ q) (fun v9 _ => (intOf v9).toNat)
  case atStart => exact ⟨q0, m0, rfl, by first | rfl | rw [eq2], tq, by omega, HTE.out, HS.out⟩
  case round =>
    obtain ⟨q, left, rfl, rfl, hq, hlf, hql, hlow⟩ := hrel
    have htest := guess_test (B := 1000000000) (third := x0) (second := g) hql
    have HLOW : Hid ((two * 1000000000 + x0) / (f * 1000000000 + g) ≤ q) := hlow
    have HQL : Hid (q * f + left = two) := hql
    clear hlow hql
    have hd2 : 0 < f * 1000000000 + g := by omega
    have hqg : q * g ≤ 2000000000 * 1000000000 := Nat.mul_le_mul (by omega) (by omega)
    obtain ⟨z, hz⟩ : ∃ z, z = q * g := ⟨_, rfl⟩
    have ez : (q : Int) * (g : Int) = (z : Int) := by rw [hz]; push_cast; rfl
    rw [← hz] at hqg htest
    clear hz
    by_cases hc : left * 1000000000 + x0 < z
    · have hc' : (left : Int) * 1000000000 + (x0 : Int) < (z : Int) := by omega
      have h1 := guess_low hd2 HLOW.out (htest.1 hc)
      have HL2 : Hid ((two * 1000000000 + x0) / (f * 1000000000 + g) ≤ q - 1) := h1
      have hqpos : 0 < q := by
        rcases Nat.eq_zero_or_pos q with h0 | h0
        · exfalso
          have h2 := htest.1 hc
          rw [h0] at h2
          simp at h2
        · exact h0
      have HQ2 : Hid ((q - 1) * f + (left + f) = two) := by
        show _ = _
        have e : q = (q - 1) + 1 := by omega
        have := HQL.out
        rw [e, Nat.add_mul, Nat.one_mul] at this
        omega
      clear h1 htest
      go_wp2_with fail
      go_round
      case rel => exact ⟨q - 1, left + f, by go_num, by go_num, by omega, by omega, HQ2.out, HL2.out⟩
      case measure => simp [intOf]; omega
    · have hc' : ¬ (left : Int) * 1000000000 + (x0 : Int) < (z : Int) := by omega
      have HE : Hid (q = (two * 1000000000 + x0) / (f * 1000000000 + g)) := guess_end hd2 HLOW.out (fun h => hc (htest.2 h))
      clear htest
      go_wp2_with fail
      go_ret
      exact ⟨⟨q, rfl, HN.out q HE.out⟩, HW2.out⟩
end Go.Proofs.YtflabehlaiocaaaDoor

/- The walks of trimmed (where its slice begins), overLimb, scaled. -/
set_option linter.unusedSimpArgs false
set_option linter.unusedVariables false
namespace Go.Proofs.YtflabehlaiocaaaDoor
open Go.RowKit Go.Deep

set_option maxHeartbeats 400000 in
theorem trimmed_keep (B : Nat) (hB : 2 ≤ B) (w : World) (a : Option Addr) (l : List Nat) (cap : Nat) (hr : Row w a l) (hc : l.length ≤ cap) (hl : ∀ d ∈ l, d < B) (hn : cap ≤ 9223372036854775807) :
    Calls Tryd.prog 42 #[.slice a l.length cap] w fun e w' => (∃ k, e = .returned (.slice a k cap) ∧ NumV w B (vl B l) (.slice a k cap)) ∧ w' = w := by
  have HL : Hid (∀ d ∈ l, d < B) := hl
  clear hl
  go_enter Tryd.func42, Tryd.ntmps42
  go_wp2_with fail
  go_loop [0] (fun s => ∃ k : Nat, k ≤ l.length ∧ s = .slice a k cap ∧ vl B (l.take k) = vl B l) (fun s => match s with | .slice _ k _ => k | _ => 0)
  case atStart => exact ⟨l.length, Nat.le_refl _, rfl, by rw [List.take_length]⟩
  case round =>
    obtain ⟨k, hk, rfl, hv⟩ := hrel
    by_cases hlt : 0 < k
    · obtain ⟨b, o, rfl, hcell⟩ := hr (k - 1) (by omega)
      have HV : Hid (vl B (l.take k) = vl B l) := hv
      clear hv
      by_cases hz : l[k - 1] = 0
      · have HS := trim_step hlt hk HV.out hz
        have HH : Hid (vl B (l.take (k - 1)) = vl B l) := HS
        rw [hz] at hcell
        clear HS HV
        go_wp2_with fail
        exact ⟨⟨k - 1, by omega, rfl, HH.out⟩, by show k - 1 < k; omega⟩
      · have HE : Hid (NumV w B (vl B l) (.slice (some ⟨b, o, none⟩) k cap)) := trim_end hB hr hc HL.out hk HV.out (fun _ => hz)
        have hz' : ((l[k - 1] : Int) == 0) = false := by simp; omega
        generalize l[k - 1] = x at *
        go_wp2_with fail
        go_ret
        exact ⟨⟨k, rfl, HE.out⟩, rfl⟩
    · obtain rfl : k = 0 := by omega
      have HE : Hid (NumV w B (vl B l) (.slice a 0 cap)) := trim_end hB hr hc HL.out hk hv (fun h => by omega)
      have hd : decide ((0 : Int) < 0) = false := by decide
      go_wp2_with fail
      go_ret
      exact ⟨⟨0, rfl, HE.out⟩, rfl⟩
theorem NumV.slice {w : World} {B n : Nat} {a : Option Addr} {k cap : Nat} (h : NumV w B n (.slice a k cap)) : k = (dg B n).length ∧ k ≤ cap ∧ Row w a (dg B n) := by
  obtain ⟨a', cap', he, h1, h2⟩ := h
  injection he with e1 e2 e3
  subst e1 e2 e3
  exact ⟨rfl, h1, h2⟩

set_option maxRecDepth 100000 in
set_option maxHeartbeats 1000000 in
/-- n times a limb, with one limb more. -/
theorem scaled_any (w : World) (a : Option Addr) (cap n s : Nat) (h : Row w a (dg 1000000000 n)) (b : (dg 1000000000 n).length ≤ 1000000) (hs : s ≤ 1000000000) :
    Calls Tryd.prog 72 #[.slice a (dg 1000000000 n).length cap, .int .i64 (s : Int)] w fun e w' => (∃ p : List Nat, e = .returned (.slice (some ⟨w.heap.size, 0, none⟩) ((dg 1000000000 n).length + 1) ((dg 1000000000 n).length + 1)) ∧ p.length = (dg 1000000000 n).length + 1 ∧ (∀ d ∈ p, d < 1000000000) ∧ vl 1000000000 p = n * s ∧ IHolds w' w.heap.size 2 (zs p)) ∧ Below w.heap.size w w' := by
  have HV : Hid (vl 1000000000 (dg 1000000000 n) = n) := vl_dg bigBase n
  have HD : Hid (∀ d ∈ dg 1000000000 n, d < 1000000000) := dg_mem bigBase n
  have HN : Hid (n < 1000000000 ^ (dg 1000000000 n).length) := lt_pow_dg bigBase n
  generalize dg 1000000000 n = l at *
  have HR : Hid (Row w a l) := h
  have HAp : Hid (l ≠ [] → Apart a w.heap.size) := fun h' => h.apart_new h'
  clear h
  obtain ⟨K, hK, hmk⟩ : ∃ K : Nat, K = l.length + 1 ∧ ∀ w, (Instr.makeSlice 37 (.int .i64 ((l.length : Int) + 1)) (.int .i64 ((l.length : Int) + 1))).run Tryd.prog w = .ok (.slice (some ⟨w.heap.size, 0, none⟩) K K) (w.alloc (.cells (zs (List.replicate K 0)).toArray 2)) :=
    ⟨l.length + 1, rfl, fun w => makeNum' _ _ (by push_cast; rfl) (by omega) w⟩
  have HK : Hid (K = l.length + 1) := hK
  have hKl : l.length < K := by omega
  rw [← hK]
  clear hK
  go_enter Tryd.func72, Tryd.ntmps72
  go_wp2_with fail
  have q1 : Hid (IHolds (w.alloc (.cells (zs (List.replicate K 0)).toArray 2)) w.heap.size 2 (zs (List.replicate K 0))) := IHolds.new w 2 _
  have q2 : Hid (Below w.heap.size w (w.alloc (.cells (zs (List.replicate K 0)).toArray 2))) := (Below.refl _ w).alloc (Nat.le_refl _) _
  clear hmk
  generalize w.alloc (.cells (zs (List.replicate K 0)).toArray 2) = W0 at *
  have HL : Hid ((List.replicate K 0).length = K) := by show _ = _; simp
  have HLv : Hid (vl 1000000000 (List.replicate K 0) = 0) := vl_zeros _ _
  have HLd : Hid (∀ d ∈ List.replicate K 0, d < 1000000000) := fun d hd => by have := List.eq_of_mem_replicate hd; omega
  generalize List.replicate K 0 = L at *
  obtain rfl : K = L.length := HL.out.symm
  have hLb : L.length ≤ 1000001 := by have := HK.out; omega
  refine (put_whole W0 w.heap.size L.length 2 L a cap l (s : Int) q1.out (HR.out.of_below q2.out) HAp.out HLd.out HD.out (by omega) (by omega)).mono ?_
  rintro e W2 ⟨p, c, rfl, hp, hI, hB⟩
  have hN : Hid (vl 1000000000 p = n * s) := (hp.done (Nat.le_refl _) (by omega) (n * s) (by rw [HLv.out, HV.out]; push_cast; grind) (by
    have e := HK.out
    rw [e, Nat.pow_succ]
    have g1 := HN.out
    rcases Nat.eq_zero_or_pos s with h0 | h0
    · subst h0
      have : 0 < 1000000000 ^ l.length := by omega
      rw [Nat.mul_zero]; omega
    · calc n * s < 1000000000 ^ l.length * s := Nat.mul_lt_mul_of_pos_right g1 h0
        _ ≤ 1000000000 ^ l.length * 1000000000 := Nat.mul_le_mul_left _ hs)).2
  have hpl : Hid (p.length = L.length) := hp.len
  have HP : Hid (∀ d ∈ p, d < 1000000000) := hp.low
  have HI : Hid (IHolds W2 w.heap.size 2 (zs p)) := hI
  have HB : Hid (Below w.heap.size w W2) := q2.out.trans (hB.below q2.out.size (Nat.le_refl _))
  clear hp hI hB
  go_wp2_with fail
  go_ret
  exact ⟨⟨p, rfl, hpl.out, HP.out, hN.out, HI.out⟩, HB.out⟩

/-! ### Division by one limb -/
theorem limb_div {l : List Nat} {i d rest : Nat} {Q : List Nat} (hi : i < l.length) (hv : vl 1000000000 (l.drop (i + 1)) = vl 1000000000 Q * d + rest) :
    vl 1000000000 (l.drop i) = vl 1000000000 (((rest * 1000000000 + l[i]) / d) :: Q) * d + (rest * 1000000000 + l[i]) % d := by
  rw [List.drop_eq_getElem_cons hi]
  simp only [vl]
  rw [hv]
  have := Nat.div_add_mod (rest * 1000000000 + l[i]) d
  generalize (rest * 1000000000 + l[i]) / d = q at *
  generalize (rest * 1000000000 + l[i]) % d = r at *
  grind
theorem rep_set (i q : Nat) (Q : List Nat) (y : Int) (hy : y = (q : Int)) : (zs (List.replicate (i + 1) 0 ++ Q)).set i (.int .i64 y) = zs (List.replicate i 0 ++ (q :: Q)) := by
  subst hy
  have : List.replicate (i + 1) 0 ++ Q = List.replicate i 0 ++ (0 :: Q) := by rw [List.replicate_succ']; simp
  rw [this, zs_append, zs_append, List.set_append_right _ _ (by simp [zs]), zs_cons, zs_cons]
  simp [zs]

set_option maxRecDepth 100000 in
set_option maxHeartbeats 1000000 in
theorem overLimb_any (w : World) (a : Option Addr) (cap n d : Nat) (h : Row w a (dg 1000000000 n)) (b : (dg 1000000000 n).length ≤ 2000000) (hd : 0 < d) (hd9 : d ≤ 1000000000) :
    Calls Tryd.prog 71 #[.slice a (dg 1000000000 n).length cap, .int .i64 (d : Int)] w fun e w' => (∃ v, e = .returned (.tuple #[v, .int .i64 ((n % d : Nat) : Int)]) ∧ NumV w' 1000000000 (n / d) v) ∧ Below w.heap.size w w' := by
  have HV : Hid (vl 1000000000 (dg 1000000000 n) = n) := vl_dg bigBase n
  have HD : Hid (∀ x ∈ dg 1000000000 n, x < 1000000000) := dg_mem bigBase n
  generalize dg 1000000000 n = l at *
  have HR : Hid (Row w a l) := h
  clear h
  obtain ⟨K, hK, hmk⟩ : ∃ K : Nat, K = l.length ∧ ∀ w, (Instr.makeSlice 37 (.int .i64 (l.length : Int)) (.int .i64 (l.length : Int))).run Tryd.prog w = .ok (.slice (some ⟨w.heap.size, 0, none⟩) K K) (w.alloc (.cells (zs (List.replicate K 0)).toArray 2)) :=
    ⟨l.length, rfl, fun w => makeNum' _ _ rfl (by omega) w⟩
  have HK : Hid (K = l.length) := hK
  have hKb : K ≤ 2000000 := by omega
  generalize hX : ((n % d : Nat) : Int) = X
  have HX : Hid (((n % d : Nat) : Int) = X) := hX
  clear hK hX
  go_enter Tryd.func71, Tryd.ntmps71
  go_wp2_with fail
  have q1 : Hid (IHolds (w.alloc (.cells (zs (List.replicate K 0)).toArray 2)) w.heap.size 2 (zs (List.replicate K 0))) := IHolds.new w 2 _
  have q2 : Hid (Below w.heap.size w (w.alloc (.cells (zs (List.replicate K 0)).toArray 2))) := (Below.refl _ w).alloc (Nat.le_refl _) _
  clear hmk
  generalize w.alloc (.cells (zs (List.replicate K 0)).toArray 2) = W0 at *
  go_loopg [5, 6] (l.length + 1) (fun gk v5 v6 wr => ∃ (i rest : Nat) (Q : List Nat), i + 1 = gk ∧ i ≤ l.length ∧ v6 = .int .i64 ((i : Int) - 1) ∧ v5 = .int .i64 (rest : Int) ∧ rest < d ∧ i + Q.length = l.length ∧ (∀ x ∈ Q, x < 1000000000) ∧ vl 1000000000 (l.drop i) = vl 1000000000 Q * d + rest ∧ IHolds wr w.heap.size 2 (zs (List.replicate i 0 ++ Q)) ∧ Below w.heap.size w wr)
  case atStart => exact ⟨l.length, 0, [], rfl, Nat.le_refl _, by first | rfl | go_num, rfl, hd, by simp, by simp, by rw [List.drop_length]; simp [vl], by rw [← HK.out, List.append_nil]; exact q1.out, q2.out⟩
  case round =>
    obtain ⟨i, rest, Q, hgi, hil, rfl, rfl, hrd, hQl, hQd, hQv, hQI, hQB⟩ := hrel
    clear q1 q2
    by_cases hpos : 0 < i
    · obtain ⟨j, rfl⟩ : ∃ j, i = j + 1 := ⟨i - 1, by omega⟩
      have hj : j < l.length := by omega
      have hjK : j < K := by have := HK.out; omega
      have hjK' : (j : Int) < (K : Int) := by omega
      obtain ⟨k1, o1, rfl, c1⟩ := HR.out.of_below hQB j hj
      have hu : l[j] < 1000000000 := HD.out _ (List.getElem_mem _)
      have HST := limb_div (Q := Q) hj hQv
      have c3 : wr.cell? ⟨w.heap.size, j, none⟩ = some (I 0) := by
        have e : List.replicate (j + 1) 0 ++ Q = List.replicate j 0 ++ (0 :: Q) := by rw [List.replicate_succ']; simp
        have := hQI
        rw [e] at this
        rw [this.cell j (by simp [zs] <;> omega)]
        simp [zs]
      have f3 : wr.frozen? ⟨w.heap.size, j, none⟩ = false := hQI.frozen _
      generalize l[j] = u at *
      have hrb : rest * 1000000000 + u < d * 1000000000 := by
        have : (rest + 1) * 1000000000 ≤ d * 1000000000 := Nat.mul_le_mul_right _ hrd
        omega
      obtain ⟨q, hq⟩ : ∃ q, q = (rest * 1000000000 + u) / d := ⟨_, rfl⟩
      obtain ⟨r, hr⟩ : ∃ r, r = (rest * 1000000000 + u) % d := ⟨_, rfl⟩
      have hqb : q < 1000000000 := by rw [hq, Nat.div_lt_iff_lt_mul hd, Nat.mul_comm]; omega
      have hrb2 : r < d := by rw [hr]; exact Nat.mod_lt _ hd
      rw [← hq, ← hr] at HST
      have H2 : Hid (vl 1000000000 (l.drop j) = vl 1000000000 (q :: Q) * d + r) := HST
      have e0 : (rest : Int) * 1000000000 + (u : Int) = ((rest * 1000000000 + u : Nat) : Int) := by rw [Int.natCast_add, Int.natCast_mul]; rfl
      have e1 : ((rest : Int) * 1000000000 + (u : Int)) / (d : Int) = (q : Int) := by rw [e0, hq]; exact (Int.natCast_ediv _ _).symm
      have e2 : ((rest : Int) * 1000000000 + (u : Int)) % (d : Int) = (r : Int) := by rw [e0, hr]; exact (Int.natCast_emod _ _).symm
      have H3 : Hid (IHolds (wr.setCell ⟨w.heap.size, j, none⟩ (.int .i64 (q : Int))) w.heap.size 2 (zs (List.replicate j 0 ++ (q :: Q)))) := by
        have := hQI.set j (.int .i64 (q : Int))
        rw [rep_set j q Q _ rfl] at this
        exact this
      have H4 : Hid (Below w.heap.size w (wr.setCell ⟨w.heap.size, j, none⟩ (.int .i64 (q : Int)))) := hQB.setCell (Nat.le_refl _) _
      have H5 : Hid (∀ x ∈ q :: Q, x < 1000000000) := fun x hx => by
        rcases List.mem_cons.1 hx with rfl | hx
        · exact hqb
        · exact hQd x hx
      have H6 : Hid (j + (q :: Q).length = l.length) := by show _ = _; rw [List.length_cons]; omega
      have dpos : (0 : Int) < (d : Int) := by omega
      have ej : ((j : Int) + 1 - 1) = (j : Int) := by omega
      have ej2 : (((j + 1 : Nat) : Int) - 1) = (j : Int) := by omega
      rw [ej2]
      clear hq hr HST hQI hQB hQv hQd e0
      go_wp2_with fail
      go_roundg (gk - 1)
      case measure => omega
      case rel => exact ⟨j, r, q :: Q, by omega, by omega, by go_num, by go_num, hrb2, H6.out, H5.out, H2.out, H3.out, H4.out⟩
    · obtain rfl : i = 0 := by omega
      rw [List.drop_zero, HV.out] at hQv
      have hdm : vl 1000000000 Q = n / d ∧ rest = n % d := by
        rw [hQv]
        constructor
        · rw [Nat.add_comm, Nat.mul_comm, Nat.add_mul_div_left _ _ hd, Nat.div_eq_of_lt hrd, Nat.zero_add]
        · rw [Nat.add_comm, Nat.mul_comm, Nat.add_mul_mod_self_left, Nat.mod_eq_of_lt hrd]
      have HQ : Hid (vl 1000000000 Q = n / d) := hdm.1
      have hrx : Hid ((rest : Int) = X) := by show _ = _; rw [← HX.out, ← hdm.2]
      have HQl : Hid (Q.length = K) := by have := HK.out; show _ = _; omega
      have HQI : Hid (IHolds wr w.heap.size 2 (zs Q)) := by show IHolds _ _ _ _; simpa using hQI
      have HQd : Hid (∀ x ∈ Q, x < 1000000000) := hQd
      have HB : Hid (Below w.heap.size w wr) := hQB
      clear hdm hQv hQI hQB hQd hQl
      go_wp2_with fail
      refine (trimmed_at wr w.heap.size K K 2 Q HQI.out HQl.out (Nat.le_refl _) HQd.out (by omega)).mono ?_
      rintro e W3 ⟨⟨v, rfl, hv⟩, rfl⟩
      rw [HQ.out] at hv
      have HVV : Hid (NumV W3 1000000000 (n / d) v) := hv
      clear hv
      go_wp2_with fail
      go_ret2
      exact ⟨⟨v, by rw [← hrx.out]; rfl, HVV.out⟩, HB.out⟩
end Go.Proofs.YtflabehlaiocaaaDoor

/- Plain: a step of the long division. -/
set_option linter.unusedSimpArgs false
set_option linter.unusedVariables false
namespace Go.Proofs.YtflabehlaiocaaaDoor

/-- What is left, and the limbs of the quotient that are there, when i of these are still to come. -/
structure DivS (B N D k i : Nat) (R Q : List Nat) : Prop where
  low : ∀ x ∈ R, x < B
  lowQ : ∀ x ∈ Q, x < B
  len : i + k + 1 ≤ R.length + 1
  eq : N = vl B R + B ^ i * vl B Q * D
  lt : vl B R < D * B ^ i
/-- The part that is looked at is below the divisor times the base, and nothing lies above it. -/
theorem DivS.part {B N D k j : Nat} {R Q : List Nat} (h : DivS B N D k (j + 1) R Q) (hB : 2 ≤ B) (hD : D < B ^ k) :
    vl B ((R.drop j).take (k + 1)) < D * B ∧ vl B (R.drop (j + (k + 1))) = 0 ∧ vl B (R.take j) < B ^ j ∧ vl B R = vl B (R.take j) + B ^ j * vl B ((R.drop j).take (k + 1)) := by
  have hl := h.len
  have e := vl_three B R j (k + 1) (by omega)
  have hlow := vl_lt B (R.take j) (fun d hd => h.low d (List.mem_of_mem_take hd))
  rw [List.length_take, Nat.min_eq_left (by omega)] at hlow
  have hlt := h.lt
  generalize vl B ((R.drop j).take (k + 1)) = P at *
  generalize vl B (R.drop (j + (k + 1))) = Z at *
  generalize vl B (R.take j) = L at *
  have hj : 0 < B ^ j := Nat.pow_pos (by omega)
  have h1 : P + B ^ (k + 1) * Z < D * B := by
    have e2 : D * B ^ (j + 1) = B ^ j * (D * B) := by rw [Nat.pow_succ]; grind
    have : B ^ j * (P + B ^ (k + 1) * Z) < B ^ j * (D * B) := by omega
    exact Nat.lt_of_mul_lt_mul_left this
  have h2 : Z = 0 := by
    rcases Nat.eq_zero_or_pos Z with h0 | h0
    · exact h0
    · exfalso
      have h3 : B ^ (k + 1) * 1 ≤ B ^ (k + 1) * Z := Nat.mul_le_mul_left _ h0
      have h4 : D * B ≤ B ^ k * B := Nat.mul_le_mul_right _ (by omega)
      have h5 : B ^ (k + 1) = B ^ k * B := Nat.pow_succ _ _
      omega
  subst h2
  simp only [Nat.mul_zero, Nat.add_zero] at h1 e
  exact ⟨h1, rfl, hlow, e⟩
theorem DivS.step {B N D k j : Nat} {R Q : List Nat} (h : DivS B N D k (j + 1) R Q) (hB : 2 ≤ B) (hD : D < B ^ k) (hD0 : 0 < D) (p : List Nat) (q : Nat) (hp : p.length = k + 1) (hpl : ∀ x ∈ p, x < B)
    (hq : q = vl B ((R.drop j).take (k + 1)) / D) (hv : vl B p = vl B ((R.drop j).take (k + 1)) % D) :
    DivS B N D k j (R.take j ++ p ++ R.drop (j + (k + 1))) (q :: Q) := by
  obtain ⟨h1, h2, h3, h4⟩ := h.part hB hD
  have hl := h.len
  have hlen : (R.take j).length = j := by rw [List.length_take]; omega
  have hvl : vl B (R.take j ++ p ++ R.drop (j + (k + 1))) = vl B (R.take j) + B ^ j * vl B p := by
    rw [List.append_assoc, vl_append, vl_append, hlen, h2]; simp
  have heq := h.eq
  have hdm := Nat.div_add_mod (vl B ((R.drop j).take (k + 1))) D
  have hml := Nat.mod_lt (vl B ((R.drop j).take (k + 1))) hD0
  refine ⟨?_, ?_, ?_, ?_, ?_⟩
  · intro x hx
    rcases List.mem_append.1 hx with hx | hx
    · rcases List.mem_append.1 hx with hx | hx
      · exact h.low x (List.mem_of_mem_take hx)
      · exact hpl x hx
    · exact h.low x (List.mem_of_mem_drop hx)
  · intro x hx
    rcases List.mem_cons.1 hx with rfl | hx
    · rw [hq, Nat.div_lt_iff_lt_mul hD0, Nat.mul_comm]; exact h1
    · exact h.lowQ x hx
  · rw [List.length_append, List.length_append, hlen, hp, List.length_drop]; omega
  · rw [hvl, heq, h4, hv]
    simp only [vl]
    rw [← hq] at hdm
    generalize vl B ((R.drop j).take (k + 1)) % D = P' at *
    rw [← hdm, Nat.pow_succ]
    grind
  · rw [hvl, hv]
    generalize vl B ((R.drop j).take (k + 1)) % D = P' at *
    have : B ^ j * (P' + 1) ≤ B ^ j * D := Nat.mul_le_mul_left _ hml
    have e1 : B ^ j * (P' + 1) = B ^ j * P' + B ^ j := by grind
    have e2 : D * B ^ j = B ^ j * D := Nat.mul_comm _ _
    omega
theorem DivS.done {B n d s k : Nat} {R Q : List Nat} (h : DivS B (n * s) (d * s) k 0 R Q) (hs : 0 < s) : vl B Q = n / d ∧ vl B R = n % d * s := by
  have e := h.eq
  have hlt := h.lt
  simp only [Nat.pow_zero, Nat.one_mul, Nat.mul_one] at e hlt
  have hpos : 0 < d * s := by omega
  constructor
  · have : (n * s) / (d * s) = vl B Q := by
      rw [e, Nat.add_comm, Nat.mul_comm, Nat.mul_add_div hpos, Nat.div_eq_of_lt hlt, Nat.add_zero]
    rw [← this, Nat.mul_div_mul_right _ _ hs]
  · have : (n * s) % (d * s) = vl B R := by
      rw [e, Nat.add_comm, Nat.mul_comm, Nat.mul_add_mod, Nat.mod_eq_of_lt hlt]
    rw [← this, Nat.mul_mod_mul_right]
/-- A put that falls below 0, and the one that brings it back. -/
theorem Puts.under {B : Nat} {l m : List Nat} {t : Int} {k : Nat} {p : List Nat} {c : Int} (h : Puts B l m t k p c) (hl : l.length ≤ k) (hm : m.length ≤ k) (x : Nat) (hx0 : 0 < x) (hx : (vl B l : Int) + t * (vl B m : Int) = -(x : Int)) (hk : x ≤ B ^ k) : c = -1 ∧ vl B p + x = B ^ k := by
  have e := h.eq
  rw [List.take_of_length_le hl, List.take_of_length_le hm, hx] at e
  have hp := vl_lt B p h.low
  rw [h.len] at hp
  have h1 : (B : Int) ^ k = ((B ^ k : Nat) : Int) := by push_cast; rfl
  rw [h1] at e
  generalize B ^ k = M at *
  have hc : c = -1 := by
    rcases Int.lt_trichotomy c (-1) with hc | hc | hc
    · exfalso
      have : c * (M : Int) ≤ (-2) * (M : Int) := Int.mul_le_mul_of_nonneg_right (by omega) (by omega)
      omega
    · exact hc
    · exfalso
      have : 0 * (M : Int) ≤ c * (M : Int) := Int.mul_le_mul_of_nonneg_right (by omega) (by omega)
      omega
  subst hc
  refine ⟨rfl, ?_⟩
  omega
theorem Puts.past {B : Nat} {l m : List Nat} {k : Nat} {p : List Nat} {c : Int} (h : Puts B l m 1 k p c) (hl : l.length ≤ k) (hm : m.length ≤ k) (N : Nat) (hN : vl B l + vl B m = N + B ^ k) (hk : N < B ^ k) : vl B p = N := by
  have e := h.eq
  rw [List.take_of_length_le hl, List.take_of_length_le hm] at e
  have hp := vl_lt B p h.low
  rw [h.len] at hp
  have h1 : (B : Int) ^ k = ((B ^ k : Nat) : Int) := by push_cast; rfl
  rw [h1] at e
  generalize B ^ k = M at *
  have hc : c = 1 := by
    rcases Int.lt_trichotomy c 1 with hc | hc | hc
    · exfalso
      have : c * (M : Int) ≤ 0 * (M : Int) := Int.mul_le_mul_of_nonneg_right (by omega) (by omega)
      omega
    · exact hc
    · exfalso
      have : 2 * (M : Int) ≤ c * (M : Int) := Int.mul_le_mul_of_nonneg_right (by omega) (by omega)
      omega
  subst hc
  omega
/-- The scale: the divisor keeps its length. -/
theorem scale_len {B d : Nat} (hB : 2 ≤ B) (hd : d ≠ 0) (s top : Nat) (ht : top = (dg B d).getD ((dg B d).length - 1) 0) (hs : s = B / (top + 1)) : 0 < s ∧ s ≤ B ∧ (dg B (d * s)).length = (dg B d).length ∧ top < B := by
  have hm := dg_mem hB d
  have htop := dg_topped hB d
  have hne : dg B d ≠ [] := fun e => hd ((dg_eq_nil hB).1 e)
  have hlen : 0 < (dg B d).length := List.length_pos_iff.2 hne
  have htB : top < B := by
    rw [ht, List.getD_eq_getElem?_getD, List.getElem?_eq_getElem (by omega)]
    exact hm _ (List.getElem_mem _)
  have hs0 : 0 < s := by rw [hs]; exact Nat.div_pos (by omega) (by omega)
  have hsB : s ≤ B := by rw [hs]; exact Nat.div_le_self _ _
  refine ⟨hs0, hsB, ?_, htB⟩
  apply Nat.le_antisymm
  · refine dg_len_le hB _ _ ?_
    obtain ⟨k, hk⟩ : ∃ k, (dg B d).length = k + 1 := ⟨(dg B d).length - 1, by omega⟩
    have e := vl_take_succ B (dg B d) k
    rw [List.take_of_length_le (by omega), vl_dg hB] at e
    have hl := vl_lt B ((dg B d).take k) (fun x hx => hm x (List.mem_of_mem_take hx))
    rw [List.length_take, Nat.min_eq_left (by omega)] at hl
    have et : (dg B d).getD k 0 = top := by rw [ht, hk]; rfl
    rw [et] at e
    rw [hk, Nat.pow_succ]
    have h1 : d < B ^ k * (top + 1) := by
      have : B ^ k * (top + 1) = B ^ k * top + B ^ k := by grind
      omega
    have h2 : (top + 1) * s ≤ B := by rw [hs]; exact Nat.mul_div_le _ _
    calc d * s < (B ^ k * (top + 1)) * s := Nat.mul_lt_mul_of_pos_right h1 hs0
      _ = B ^ k * ((top + 1) * s) := Nat.mul_assoc _ _ _
      _ ≤ B ^ k * B := Nat.mul_le_mul_left _ h2
  · refine dg_len_mono hB ?_
    calc d = d * 1 := (Nat.mul_one d).symm
      _ ≤ d * s := Nat.mul_le_mul_left _ hs0
theorem DivS.start {B n d s : Nat} (hB : 2 ≤ B) (hs : 0 < s) {R : List Nat} (hd : 0 < (dg B d).length) (hle : (dg B d).length ≤ (dg B n).length) (hR : R.length = (dg B n).length + 1) (hl : ∀ x ∈ R, x < B) (hv : vl B R = n * s) :
    DivS B (n * s) (d * s) (dg B d).length ((dg B n).length - (dg B d).length + 1) R [] := by
  refine ⟨hl, (fun x hx => by cases hx), by omega, by simp [vl, hv], ?_⟩
  rw [hv]
  have h1 := lt_pow_dg hB n
  have h2 := pow_le_of_len hB ((dg B d).length - 1) d (by omega)
  have e : B ^ (dg B n).length = B ^ ((dg B d).length - 1) * B ^ ((dg B n).length - (dg B d).length + 1) := by rw [← Nat.pow_add]; congr 1; omega
  have h3 : B ^ ((dg B d).length - 1) * B ^ ((dg B n).length - (dg B d).length + 1) ≤ d * B ^ ((dg B n).length - (dg B d).length + 1) := Nat.mul_le_mul_right _ h2
  calc n * s < B ^ (dg B n).length * s := Nat.mul_lt_mul_of_pos_right h1 hs
    _ ≤ (d * B ^ ((dg B n).length - (dg B d).length + 1)) * s := Nat.mul_le_mul_right _ (by omega)
    _ = d * s * B ^ ((dg B n).length - (dg B d).length + 1) := by grind
end Go.Proofs.YtflabehlaiocaaaDoor

/- The walk of over: long division. -/
set_option linter.unusedSimpArgs false
set_option linter.unusedVariables false
namespace Go.Proofs.YtflabehlaiocaaaDoor
open Go.RowKit Go.Deep

theorem IHolds.of_but {w w' : World} {b g : Nat} {t : TypeId} {l : List Value} (h : IHolds w b t l) (hb : But g w w') (hg : b ≠ g) : IHolds w' b t l := by
  unfold IHolds; rw [hb.block b h.lt hg]; exact h
theorem Owned.num {w : World} {base n : Nat} {v : Value} (h : Owned w base (dg 1000000000 n) v) : NumV w 1000000000 n v := by
  rcases h with ⟨h0, a, c, rfl, hc⟩ | ⟨g, cap, post, rfl, hg, hI, hc, hm⟩
  · exact ⟨a, c, by rw [h0]; rfl, by rw [h0]; simp, by rw [h0]; exact Row.nil _ _⟩
  · exact ⟨_, cap, rfl, hc, IHolds.row (pre := []) (by simpa using hI)⟩
theorem NumV.zeroBig (w : World) : NumV w 1000000000 0 (.slice none 0 0) := ⟨none, 0, by rw [dg_zero]; rfl, by rw [dg_zero]; exact Nat.le_refl _, by rw [dg_zero]; exact Row.nil _ _⟩

set_option maxHeartbeats 1000000 in
theorem over_low (w : World) (a1 a2 : Option Addr) (cap1 cap2 n d : Nat) (h1 : Row w a1 (dg 1000000000 n)) (h2 : Row w a2 (dg 1000000000 d)) (b1 : (dg 1000000000 n).length ≤ 1000000) (b2 : (dg 1000000000 d).length ≤ 1000000) (hlt : n < d) :
    Calls Tryd.prog 56 #[.slice a1 (dg 1000000000 n).length cap1, .slice a2 (dg 1000000000 d).length cap2] w fun e w' => (∃ v1 v2, e = .returned (.tuple #[v1, v2]) ∧ NumV w' 1000000000 (n / d) v1 ∧ NumV w' 1000000000 (n % d) v2) ∧ Below w.heap.size w w' := by
  have HC : Hid (Calls Tryd.prog 39 #[.slice a1 (dg 1000000000 n).length cap1, .slice a2 (dg 1000000000 d).length cap2] w fun e w' => e = .returned (.int .i64 (-1)) ∧ ∃ k, w' = w.drewN k) := by
    have := compare_any w a1 a2 cap1 cap2 n d h1 h2 b1 b2
    rw [cmp3_lt (by omega)] at this
    exact this
  have HL : Hid (∀ k, Calls Tryd.prog 70 #[.slice a1 (dg 1000000000 n).length cap1] (w.drewN k) fun e w' => (∃ v, e = .returned v ∧ Owned w' w.heap.size (dg 1000000000 n) v) ∧ Below w.heap.size (w.drewN k) w') := fun k => clone_any (w.drewN k) a1 cap1 _ (h1.drew k) b1
  rw [Nat.div_eq_of_lt hlt, Nat.mod_eq_of_lt hlt]
  have HO : Hid (∀ w' v, Owned w' w.heap.size (dg 1000000000 n) v → NumV w' 1000000000 n v) := fun w' v h => h.num
  clear h1 h2
  generalize dg 1000000000 n = l1 at *
  generalize (dg 1000000000 d).length = k2 at *
  go_enter Tryd.func56, Tryd.ntmps56
  go_wp2_with fail
  refine HC.out.mono ?_
  rintro e w1 ⟨rfl, k, rfl⟩
  go_wp2_with fail
  refine (HL.out k).mono ?_
  rintro e w1 ⟨⟨v, rfl, hv⟩, hb⟩
  have HN : Hid (NumV w1 1000000000 n v) := HO.out _ _ hv
  have HB : Hid (Below w.heap.size w w1) := (below_drawn w k).trans hb
  clear hv hb
  go_wp2_with fail
  go_ret2
  exact ⟨⟨_, v, rfl, NumV.zeroBig _, HN.out⟩, HB.out⟩

set_option maxRecDepth 100000 in
set_option maxHeartbeats 1000000 in
theorem over_one (w : World) (a1 a2 : Option Addr) (cap1 cap2 n d : Nat) (h1 : Row w a1 (dg 1000000000 n)) (h2 : Row w a2 (dg 1000000000 d)) (b1 : (dg 1000000000 n).length ≤ 1000000) (b2 : (dg 1000000000 d).length = 1) (hle : d ≤ n) :
    Calls Tryd.prog 56 #[.slice a1 (dg 1000000000 n).length cap1, .slice a2 (dg 1000000000 d).length cap2] w fun e w' => (∃ v1 v2, e = .returned (.tuple #[v1, v2]) ∧ NumV w' 1000000000 (n / d) v1 ∧ NumV w' 1000000000 (n % d) v2) ∧ Below w.heap.size w w' := by
  have HC : Hid (Calls Tryd.prog 39 #[.slice a1 (dg 1000000000 n).length cap1, .slice a2 (dg 1000000000 d).length cap2] w fun e w' => e = .returned (.int .i64 (cmp3 (n : Int) (d : Int))) ∧ ∃ k, w' = w.drewN k) := compare_any w a1 a2 cap1 cap2 n d h1 h2 b1 (by omega)
  have hc : ¬ cmp3 (n : Int) (d : Int) < 0 := by unfold cmp3; split <;> (try split) <;> omega
  have hd9 : d < 1000000000 := by
    have := lt_pow_dg bigBase d
    rw [b2] at this
    simpa using this
  have hd0 : 0 < d := by
    rcases Nat.eq_zero_or_pos d with h0 | h0
    · rw [h0, dg_zero] at b2; simp at b2
    · exact h0
  obtain ⟨bb, oo, rfl, cc⟩ := h2 0 (by omega)
  have e0 : (dg 1000000000 d)[0]'(by omega) = d := by
    have e := dg_pos bigBase (show d ≠ 0 by omega)
    have e1 : (dg 1000000000 d)[0]? = some (d % 1000000000) := by rw [e]; rfl
    rw [List.getElem?_eq_getElem (by omega)] at e1
    rw [Option.some.inj e1, Nat.mod_eq_of_lt hd9]
  rw [e0] at cc
  have HO : Hid (∀ W, Below w.heap.size w W → Calls Tryd.prog 71 #[.slice a1 (dg 1000000000 n).length cap1, .int .i64 (d : Int)] W fun e w' => (∃ v, e = .returned (.tuple #[v, .int .i64 ((n % d : Nat) : Int)]) ∧ NumV w' 1000000000 (n / d) v) ∧ Below W.heap.size W w') := fun W hW => overLimb_any W a1 cap1 n d (h1.of_below hW) (by omega) hd0 (by omega)
  have hm9 : n % d < 1000000000 := Nat.lt_trans (Nat.mod_lt _ hd0) hd9
  rw [b2] at HC ⊢
  clear h1 h2 e0
  generalize dg 1000000000 n = l1 at *
  generalize cmp3 (n : Int) (d : Int) = c at *
  have oo0 : w.cell? ⟨bb, oo, none⟩ = some (I d) := cc
  generalize n % d = r at *
  generalize n / d = q at *
  go_enter Tryd.func56, Tryd.ntmps56
  go_wp2_with fail
  refine HC.out.mono ?_
  rintro e w1 ⟨rfl, k, rfl⟩
  go_wp2_with fail
  refine (HO.out _ (below_drawn w k)).mono ?_
  rintro e w2 ⟨⟨v, rfl, hv⟩, hb⟩
  have HN : Hid (NumV w2 1000000000 q v) := hv
  have HB : Hid (Below w.heap.size w w2) := (below_drawn w k).trans hb
  clear hv hb cc oo0
  go_wp2_with fail
  have q1 : Hid (IHolds (w2.alloc (.cells #[.int .i64 (r : Int)] 2)) w2.heap.size 2 (zs [r])) := IHolds.new w2 2 (zs [r])
  have q2 : Hid (Below w2.heap.size w2 (w2.alloc (.cells #[.int .i64 (r : Int)] 2))) := (Below.refl _ w2).alloc (Nat.le_refl _) _
  generalize w2.alloc (.cells #[.int .i64 (r : Int)] 2) = W3 at *
  refine (trimmed_at W3 w2.heap.size 1 1 2 [r] q1.out rfl (Nat.le_refl _) (fun x hx => by simp at hx; omega) (by omega)).mono ?_
  rintro e W4 ⟨⟨v2, rfl, hv⟩, rfl⟩
  have e1 : vl 1000000000 [r] = r := by simp [vl]
  rw [e1] at hv
  have HR : Hid (NumV W4 1000000000 r v2) := hv
  have HN2 : Hid (NumV W4 1000000000 q v) := HN.out.of_below q2.out
  have HB2 : Hid (Below w.heap.size w W4) := HB.out.trans (q2.out.mono HB.out.size)
  clear hv e1
  go_wp2_with fail
  go_ret2
  exact ⟨⟨v, v2, rfl, HN2.out, HR.out⟩, HB2.out⟩
end Go.Proofs.YtflabehlaiocaaaDoor

/- The walk of over with a divisor of two limbs or more. -/
set_option linter.unusedSimpArgs false
set_option linter.unusedVariables false
namespace Go.Proofs.YtflabehlaiocaaaDoor
open Go.RowKit Go.Deep

theorem rep_reset (j a q : Nat) (Q : List Nat) (y : Int) (hy : y = (q : Int)) : (zs (List.replicate j 0 ++ (a :: Q))).set j (.int .i64 y) = zs (List.replicate j 0 ++ (q :: Q)) := by
  subst hy
  rw [zs_append, zs_append, List.set_append_right _ _ (by simp [zs]), zs_cons, zs_cons]
  simp [zs]
theorem put_right {D y yq ym : Nat} (h : D * yq + ym = y) : (y : Int) + -(yq : Int) * (D : Int) = (ym : Int) := by
  have : (y : Int) = (D : Int) * (yq : Int) + (ym : Int) := by rw [← h]; push_cast; rfl
  rw [this]; grind
theorem put_high {D y yq ym : Nat} (h : D * yq + ym = y) (hm : ym < D) : (y : Int) + -((yq + 1 : Nat) : Int) * (D : Int) = -((D - ym : Nat) : Int) := by
  have h1 : (y : Int) = (D : Int) * (yq : Int) + (ym : Int) := by rw [← h]; push_cast; rfl
  have h2 : ((D - ym : Nat) : Int) = (D : Int) - (ym : Int) := by omega
  rw [h1, h2]; push_cast; grind

set_option maxRecDepth 100000 in
set_option maxHeartbeats 4000000 in
theorem over_many (w : World) (a1 a2 : Option Addr) (cap1 cap2 n d : Nat) (h1 : Row w a1 (dg 1000000000 n)) (h2 : Row w a2 (dg 1000000000 d)) (b1 : (dg 1000000000 n).length ≤ 1000000) (b2 : 2 ≤ (dg 1000000000 d).length) (hle : d ≤ n) :
    Calls Tryd.prog 56 #[.slice a1 (dg 1000000000 n).length cap1, .slice a2 (dg 1000000000 d).length cap2] w fun e w' => (∃ v1 v2, e = .returned (.tuple #[v1, v2]) ∧ NumV w' 1000000000 (n / d) v1 ∧ NumV w' 1000000000 (n % d) v2) ∧ Below w.heap.size w w' := by
  have hkl := dg_len_mono bigBase hle
  have HC : Hid (Calls Tryd.prog 39 #[.slice a1 (dg 1000000000 n).length cap1, .slice a2 (dg 1000000000 d).length cap2] w fun e w' => e = .returned (.int .i64 (cmp3 (n : Int) (d : Int))) ∧ ∃ k, w' = w.drewN k) := compare_any w a1 a2 cap1 cap2 n d h1 h2 b1 (by omega)
  have hc : ¬ cmp3 (n : Int) (d : Int) < 0 := by unfold cmp3; split <;> (try split) <;> omega
  have hd0 : d ≠ 0 := fun e => by rw [e, dg_zero] at b2; simp at b2
  obtain ⟨top, htop⟩ : ∃ top, top = (dg 1000000000 d).getD ((dg 1000000000 d).length - 1) 0 := ⟨_, rfl⟩
  obtain ⟨s, hs⟩ : ∃ s, s = 1000000000 / (top + 1) := ⟨_, rfl⟩
  obtain ⟨s0, s9, slen, stop⟩ := scale_len bigBase hd0 s top htop hs
  obtain ⟨bb, oo, rfl, ccx⟩ := h2 0 (by omega)
  clear ccx
  have cc := h2.cellAt ((dg 1000000000 d).length - 1) (by omega)
  rw [← htop] at cc
  have es : (1000000000 : Int) / ((top : Int) + 1) = (s : Int) := by
    rw [hs]; exact (Int.natCast_ediv 1000000000 (top + 1)).symm
  have HS1 : Hid (∀ W, Below w.heap.size w W → Calls Tryd.prog 72 #[.slice a1 (dg 1000000000 n).length cap1, .int .i64 (s : Int)] W fun e w' => (∃ p : List Nat, e = .returned (.slice (some ⟨W.heap.size, 0, none⟩) ((dg 1000000000 n).length + 1) ((dg 1000000000 n).length + 1)) ∧ p.length = (dg 1000000000 n).length + 1 ∧ (∀ d ∈ p, d < 1000000000) ∧ vl 1000000000 p = n * s ∧ IHolds w' W.heap.size 2 (zs p)) ∧ Below W.heap.size W w') := fun W hW => scaled_any W a1 cap1 n s (h1.of_below hW) b1 s9
  have HS2 : Hid (∀ W, Below w.heap.size w W → Calls Tryd.prog 72 #[.slice (some ⟨bb, oo, none⟩) (dg 1000000000 d).length cap2, .int .i64 (s : Int)] W fun e w' => (∃ p : List Nat, e = .returned (.slice (some ⟨W.heap.size, 0, none⟩) ((dg 1000000000 d).length + 1) ((dg 1000000000 d).length + 1)) ∧ p.length = (dg 1000000000 d).length + 1 ∧ (∀ d ∈ p, d < 1000000000) ∧ vl 1000000000 p = d * s ∧ IHolds w' W.heap.size 2 (zs p)) ∧ Below W.heap.size W w') := fun W hW => scaled_any W _ cap2 d s (h2.of_below hW) (by omega) s9
  have HST : Hid (∀ R : List Nat, R.length = (dg 1000000000 n).length + 1 → (∀ x ∈ R, x < 1000000000) → vl 1000000000 R = n * s → DivS 1000000000 (n * s) (d * s) (dg 1000000000 d).length ((dg 1000000000 n).length - (dg 1000000000 d).length + 1) R []) := fun R g1 g2 g3 => DivS.start bigBase s0 (by omega) hkl g1 g2 g3
  have HEND : Hid (∀ k R Q, DivS 1000000000 (n * s) (d * s) k 0 R Q → vl 1000000000 Q = n / d ∧ vl 1000000000 R = n % d * s) := fun k R Q h => h.done s0
  have HMS : Hid (n % d * s / s = n % d) := Nat.mul_div_cancel _ s0
  have HDP : Hid (0 < d * s) := Nat.mul_pos (by omega) s0
  have HDlt : Hid (d * s < 1000000000 ^ (dg 1000000000 d).length) := by
    have := lt_pow_dg bigBase (d * s)
    rw [slen] at this
    exact this
  have HDm : Hid (∀ x ∈ dg 1000000000 (d * s), x < 1000000000) := dg_mem bigBase _
  have HDv : Hid (vl 1000000000 (dg 1000000000 (d * s)) = d * s) := vl_dg bigBase _
  have HDt : Hid ((dg 1000000000 (d * s)).getD ((dg 1000000000 d).length - 1) 0 ≠ 0) := by
    rcases dg_topped bigBase (d * s) with h | h
    · rw [h] at slen; simp at slen; omega
    · rw [slen] at h; exact h
  have HRl : Hid ((dg 1000000000 (n % d * s)).length ≤ 2000000) := by
    refine Nat.le_trans (dg_len_mono bigBase (show n % d * s ≤ d * s from Nat.mul_le_mul_right _ (Nat.le_of_lt (Nat.mod_lt _ (by omega))))) ?_
    rw [slen]; omega
  have HNS : Hid (∀ W a k' cap, NumV W 1000000000 (d * s) (.slice a k' cap) → (dg 1000000000 d).length = k' ∧ Row W a (dg 1000000000 (d * s))) := fun W a k' cap h => by
    obtain ⟨g1, _, g3⟩ := h.slice
    rw [slen] at g1
    exact ⟨g1.symm, g3⟩
  have HOL : Hid (∀ W v, NumV W 1000000000 (n % d * s) v → Calls Tryd.prog 71 #[v, .int .i64 (s : Int)] W fun e w' => (∃ v2 y, e = .returned (.tuple #[v2, .int .i64 y]) ∧ NumV w' 1000000000 (n % d) v2) ∧ Below W.heap.size W w') := fun W v h => by
    obtain ⟨a, cap, rfl, g1, g2⟩ := h
    refine (overLimb_any W a cap (n % d * s) s g2 HRl.out s0 s9).mono ?_
    rintro e w' ⟨⟨v2, he, hv2⟩, hb⟩
    rw [HMS.out] at hv2
    exact ⟨⟨v2, _, he, hv2⟩, hb⟩
  have SL : Hid ((dg 1000000000 (d * s)).length = (dg 1000000000 d).length) := slen
  clear htop hs h1 h2 slen
  generalize hln : (dg 1000000000 n).length = ln at *
  generalize hk : (dg 1000000000 d).length = k at *
  generalize cmp3 (n : Int) (d : Int) = c at *
  clear hln hk
  generalize dg 1000000000 (d * s) = dl at *
  generalize hND : d * s = D at *
  generalize hNN : n * s = N at *
  generalize hrr : n % d * s = rr at *
  generalize n % d = r at *
  generalize n / d = q at *
  clear hND hNN hrr
  have ik : ((k : Int) - 1).toNat = k - 1 := by omega
  have hk1 : ((k : Int) == 1) = false := beq_eq_false_iff_ne.2 (by omega)
  have htp : (0 : Int) < (top : Int) + 1 := by omega
  obtain ⟨M, hM, hmk⟩ : ∃ M : Nat, M = ln - k + 1 ∧ ∀ w, (Instr.makeSlice 37 (.int .i64 ((ln : Int) - (k : Int) + 1)) (.int .i64 ((ln : Int) - (k : Int) + 1))).run Tryd.prog w = .ok (.slice (some ⟨w.heap.size, 0, none⟩) M M) (w.alloc (.cells (zs (List.replicate M 0)).toArray 2)) :=
    ⟨ln - k + 1, rfl, fun w => makeNum' _ _ (by omega) (by omega) w⟩
  have HM : Hid (M = ln - k + 1) := hM
  have hMb : M ≤ 1000001 := by omega
  rw [← hM] at HST
  clear hM
  go_enter Tryd.func56, Tryd.ntmps56
  go_wp2_with fail
  refine HC.out.mono ?_
  rintro e w1 ⟨rfl, j, rfl⟩
  go_wp2_with fail
  refine (HS1.out _ (below_drawn w j)).mono ?_
  rintro e w2 ⟨⟨R0, rfl, hR1, hR2, hR3, hR4⟩, hb⟩
  have B2 : Hid (Below w.heap.size w w2) := (below_drawn w j).trans hb
  have HR0 : Hid (DivS 1000000000 N D k M R0 []) := HST.out R0 hR1 hR2 hR3
  have HI2 : Hid (IHolds w2 w.heap.size 2 (zs R0)) := hR4
  have HL0 : Hid (R0.length = ln + 1) := hR1
  have hsz2 : Hid (w.heap.size < w2.heap.size) := hR4.lt
  clear hb hR1 hR2 hR3 hR4 HST HS1 HC cc
  go_wp2_with fail
  refine (HS2.out _ B2.out).mono ?_
  rintro e w3 ⟨⟨D0, rfl, hD1, hD2, hD3, hD4⟩, hb⟩
  have B3 : Hid (Below w.heap.size w w3) := B2.out.trans (hb.mono B2.out.size)
  have HI3 : Hid (IHolds w3 w.heap.size 2 (zs R0)) := HI2.out.of_below hb
  have HTR : Hid (Calls Tryd.prog 42 #[.slice (some ⟨w2.heap.size, 0, none⟩) (k + 1) (k + 1)] w3 fun e w' => (∃ k', e = .returned (.slice (some ⟨w2.heap.size, 0, none⟩) k' (k + 1)) ∧ NumV w3 1000000000 (vl 1000000000 D0) (.slice (some ⟨w2.heap.size, 0, none⟩) k' (k + 1))) ∧ w' = w3) := by
    have hr : Row w3 (some ⟨w2.heap.size, 0, none⟩) D0 := IHolds.row (pre := []) (post := []) (by rw [List.nil_append, List.append_nil]; exact hD4)
    have := trimmed_keep 1000000000 bigBase w3 (some ⟨w2.heap.size, 0, none⟩) D0 (k + 1) hr (by omega) hD2 (by omega)
    rw [hD1] at this
    exact this
  have hD4 : w2.heap.size < w3.heap.size := hD4.lt
  clear hb hD1 hD2 HI2 HS2
  go_wp2_with fail
  refine HTR.out.mono ?_
  rintro e w4 ⟨⟨k', rfl, hnv⟩, rfl⟩
  rw [hD3] at hnv
  clear HTR hD3
  have hsz4 : Hid (w2.heap.size < w4.heap.size) := hD4
  clear hD4
  obtain ⟨rfl, hrow⟩ := HNS.out _ _ _ _ hnv
  have HRow : Hid (Row w4 (some ⟨w2.heap.size, 0, none⟩) dl) := hrow
  clear hnv hrow HNS
  go_wp2_with fail
  have q1 : Hid (IHolds (w4.alloc (.cells (zs (List.replicate M 0)).toArray 2)) w4.heap.size 2 (zs (List.replicate M 0))) := IHolds.new w4 2 _
  have q2 : Hid (Below w4.heap.size w4 (w4.alloc (.cells (zs (List.replicate M 0)).toArray 2))) := (Below.refl _ w4).alloc (Nat.le_refl _) _
  have B5 : Hid (Below w.heap.size w (w4.alloc (.cells (zs (List.replicate M 0)).toArray 2))) := B3.out.trans (q2.out.mono B3.out.size)
  have HI5 : Hid (IHolds (w4.alloc (.cells (zs (List.replicate M 0)).toArray 2)) w.heap.size 2 (zs R0)) := HI3.out.of_below q2.out
  have HRow5 : Hid (Row (w4.alloc (.cells (zs (List.replicate M 0)).toArray 2)) (some ⟨w2.heap.size, 0, none⟩) dl) := HRow.out.of_below q2.out
  have hge : Hid (w.heap.size ≤ w4.heap.size) := B3.out.size
  clear hmk HI3 HRow q2 B3 B2
  generalize w4.alloc (.cells (zs (List.replicate M 0)).toArray 2) = W5 at *
  generalize w4.heap.size = bQ at *
  generalize w2.heap.size = bD at *
  have nRD : Hid (w.heap.size ≠ bD) := by have := hsz2.out; show ¬ _; omega
  have nRQ : Hid (w.heap.size ≠ bQ) := by have := hsz2.out; have := hsz4.out; show ¬ _; omega
  have nDQ : Hid (bD ≠ bQ) := by have := hsz4.out; show ¬ _; omega
  have HAp : Hid (∀ g, bD ≠ g → dl ≠ [] → Apart (some ⟨bD, 0, none⟩) g) := fun g hg _ k' o' he => by
    simp only [Option.some.injEq, Addr.mk.injEq] at he
    omega
  go_loopg [9] (M + 1) (fun gk v9 wr => ∃ (i : Nat) (R Q : List Nat), i + 1 = gk ∧ i ≤ M ∧ v9 = .int .i64 ((i : Int) - 1) ∧ i + Q.length = M ∧ R.length = ln + 1 ∧ DivS 1000000000 N D k i R Q ∧ IHolds wr w.heap.size 2 (zs R) ∧ IHolds wr bQ 2 (zs (List.replicate i 0 ++ Q)) ∧ Row wr (some ⟨bD, 0, none⟩) dl ∧ Below w.heap.size w wr)
  case atStart => exact ⟨M, R0, [], rfl, Nat.le_refl _, by first | rfl | go_num, by simp, HL0.out, HR0.out, HI5.out, by rw [List.append_nil]; exact q1.out, HRow5.out, B5.out⟩
  case round =>
    obtain ⟨i, R, Q, hgi, hiM, rfl, hQl, hRl, hS, hRI, hQI, hrow, hB⟩ := hrel
    clear q1 HI5 HRow5 B5 HR0 HL0
    have hMe := HM.out
    by_cases hpos : 0 < i
    · obtain ⟨j, rfl⟩ : ∃ j, i = j + 1 := ⟨i - 1, by omega⟩
      obtain ⟨p1, p2, p3, p4⟩ := hS.part bigBase HDlt.out
      have hjl : j + (k + 1) ≤ R.length := by omega
      have hthree := three R j (k + 1) hjl
      have hXl : (R.take j).length = j := by rw [List.length_take]; omega
      have hYl : ((R.drop j).take (k + 1)).length = k + 1 := by rw [List.length_take, List.length_drop]; omega
      have hYd : ∀ x ∈ (R.drop j).take (k + 1), x < 1000000000 := fun x hx => hS.low x (List.mem_of_mem_drop (List.mem_of_mem_take hx))
      have HSTEP : Hid (∀ p q, p.length = k + 1 → (∀ x ∈ p, x < 1000000000) → q = vl 1000000000 ((R.drop j).take (k + 1)) / D → vl 1000000000 p = vl 1000000000 ((R.drop j).take (k + 1)) % D → DivS 1000000000 N D k j (R.take j ++ p ++ R.drop (j + (k + 1))) (q :: Q)) := fun p q g1 g2 g3 g4 => hS.step bigBase HDlt.out HDP.out p q g1 g2 g3 g4
      have HZl : Hid (∀ p : List Nat, p.length = k + 1 → (R.take j ++ p ++ R.drop (j + (k + 1))).length = ln + 1) := fun p hp => by
        rw [List.length_append, List.length_append, hXl, hp, List.length_drop]; omega
      have HIp : Hid (IHolds wr w.heap.size 2 (zs (R.take j) ++ zs ((R.drop j).take (k + 1)) ++ zs (R.drop (j + (k + 1))))) := by
        show IHolds _ _ _ _
        rw [← zs_append, ← zs_append, ← hthree]; exact hRI
      generalize R.take j = X at *
      generalize (R.drop j).take (k + 1) = Y at *
      generalize R.drop (j + (k + 1)) = Z at *
      have HYl : Hid (Y.length = k + 1) := hYl
      have HYd : Hid (∀ x ∈ Y, x < 1000000000) := hYd
      have HXl : Hid ((zs X).length = j) := by show _ = _; rw [zs_length, hXl]
      have G : Guess 1000000000 Y dl (k - 2) := ⟨by omega, by have := SL.out; omega, hYd, HDm.out, by
        have := HDt.out
        rwa [show k - 2 + 1 = k - 1 by omega], by rw [HDv.out]; exact p1⟩
      have HGU : Hid (Calls Tryd.prog 73 #[.slice (some ⟨w.heap.size, j, none⟩) (k + 1) (ln + 1 - j), .slice (some ⟨bD, 0, none⟩) k (k + 1)] wr fun e w' => (∃ qh : Nat, e = .returned (.int .i64 (qh : Int)) ∧ (qh = vl 1000000000 Y / D ∨ qh = vl 1000000000 Y / D + 1)) ∧ ∃ j', w' = wr.drewN j') := by
        have hr : Row wr (some ⟨w.heap.size, j, none⟩) Y := by have := IHolds.row HIp.out; rw [HXl.out] at this; exact this
        have := guess_any wr w.heap.size j (ln + 1 - j) bD 0 (k + 1) k Y dl b2 (by omega) G hr hrow
        rw [HDv.out] at this
        exact this
      have HPUT : Hid (∀ (W : World) (Y' : List Nat) (t : Int), IHolds W w.heap.size 2 (zs X ++ zs Y' ++ zs Z) → Row W (some ⟨bD, 0, none⟩) dl → Y'.length = k + 1 → (∀ x ∈ Y', x < 1000000000) → (-1000000000 ≤ t ∧ t ≤ 1000000000) → Calls Tryd.prog 52 #[.slice (some ⟨w.heap.size, j, none⟩) (k + 1) (ln + 1 - j), .slice (some ⟨bD, 0, none⟩) k (k + 1), .int .i64 t] W fun e w' => ∃ (p : List Nat) (c : Int), e = .returned (.int .i64 c) ∧ Puts 1000000000 Y' dl t (k + 1) p c ∧ IHolds w' w.heap.size 2 (zs X ++ zs p ++ zs Z) ∧ But w.heap.size W w') := fun W Y' t g1 g2 g3 g4 g5 => by
        have := put_part W w.heap.size j (k + 1) (ln + 1 - j) 2 (zs X) (zs Z) Y' (some ⟨bD, 0, none⟩) (k + 1) dl t HXl.out g3 g1 g2 (HAp.out _ (fun h => nRD.out h.symm)) g4 HDm.out g5 (by omega)
        rw [SL.out] at this
        exact this
      have hq9 : vl 1000000000 Y / D < 1000000000 := by rw [Nat.div_lt_iff_lt_mul HDP.out, Nat.mul_comm]; exact p1
      have HDM : Hid (D * (vl 1000000000 Y / D) + vl 1000000000 Y % D = vl 1000000000 Y) := Nat.div_add_mod _ _
      have HML : Hid (vl 1000000000 Y % D < D) := Nat.mod_lt _ HDP.out
      have HQI : Hid (IHolds wr bQ 2 (zs (List.replicate (j + 1) 0 ++ Q))) := hQI
      have HRw : Hid (Row wr (some ⟨bD, 0, none⟩) dl) := hrow
      have HB : Hid (Below w.heap.size w wr) := hB
      have hjM : j < M := by omega
      have hjM' : (j : Int) < (M : Int) := by omega
      have ejj : (((j + 1 : Nat) : Int) - 1) = (j : Int) := by omega
      have ekk : j + k + 1 - j = k + 1 := by omega
      have hjk' : (j : Int) + (k : Int) + 1 ≤ (ln : Int) + 1 := by omega
      have hjk : j + k + 1 ≤ ln + 1 := by omega
      rw [ejj]
      clear hS hRI hQI hrow hB p1 p2 p3 p4 hthree hXl hYl hYd G hRl hjl hMe
      go_wp2_with fail
      refine HGU.out.mono ?_
      rintro e w6 ⟨⟨qh, rfl, hqh⟩, j', rfl⟩
      clear HGU
      have c3 : (wr.drewN j').cell? ⟨bQ, j, none⟩ = some (I 0) := by
        have e : List.replicate (j + 1) 0 ++ Q = List.replicate j 0 ++ (0 :: Q) := by rw [List.replicate_succ']; simp
        have := HQI.out
        rw [e] at this
        show wr.cell? _ = _
        rw [this.cell j (by simp [zs] <;> omega)]
        simp [zs]
      have f3 : (wr.drewN j').frozen? ⟨bQ, j, none⟩ = false := HQI.out.frozen _
      have I6 : Hid (IHolds (wr.drewN j') w.heap.size 2 (zs X ++ zs Y ++ zs Z)) := HIp.out
      have Q6 : Hid (IHolds (wr.drewN j') bQ 2 (zs (List.replicate (j + 1) 0 ++ Q))) := HQI.out
      have R6 : Hid (Row (wr.drewN j') (some ⟨bD, 0, none⟩) dl) := HRw.out.drew j'
      have B6 : Hid (Below w.heap.size w (wr.drewN j')) := ⟨HB.out.os, HB.out.tape, HB.out.output, HB.out.size, HB.out.block⟩
      clear HIp HQI HRw HB
      generalize wr.drewN j' = w6 at *
      have hqh9 : qh ≤ 1000000000 := by
        generalize vl 1000000000 Y / D = qq at *
        omega
      have Q7 : Hid (IHolds (w6.setCell ⟨bQ, j, none⟩ (.int .i64 (qh : Int))) bQ 2 (zs (List.replicate j 0 ++ (qh :: Q)))) := by
        have := Q6.out.set j (.int .i64 (qh : Int))
        rw [rep_set j qh Q _ rfl] at this
        exact this
      have bt7 : But bQ w6 (w6.setCell ⟨bQ, j, none⟩ (.int .i64 (qh : Int))) := (But.refl _ _).setCell _ _
      have I7 : Hid (IHolds (w6.setCell ⟨bQ, j, none⟩ (.int .i64 (qh : Int))) w.heap.size 2 (zs X ++ zs Y ++ zs Z)) := I6.out.of_but bt7 nRQ.out
      have R7 : Hid (Row (w6.setCell ⟨bQ, j, none⟩ (.int .i64 (qh : Int))) (some ⟨bD, 0, none⟩) dl) := R6.out.of_but (HAp.out _ nDQ.out) bt7
      have B7 : Hid (Below w.heap.size w (w6.setCell ⟨bQ, j, none⟩ (.int .i64 (qh : Int)))) := B6.out.setCell hge.out _
      have c7 : (w6.setCell ⟨bQ, j, none⟩ (.int .i64 (qh : Int))).cell? ⟨bQ, j, none⟩ = some (I qh) := by
        rw [Q7.out.cell j (by simp [zs] <;> omega)]
        simp [zs]
      clear bt7 I6 Q6 R6 B6
      go_wp2_with fail
      clear c3 f3
      generalize w6.setCell ⟨bQ, j, none⟩ (.int .i64 (qh : Int)) = w7 at *
      have hDB : D < 1000000000 ^ (k + 1) := Nat.lt_of_lt_of_le HDlt.out (Nat.pow_le_pow_right (by omega) (by omega))
      have hdl := SL.out
      refine (HPUT.out w7 Y (-(qh : Int)) I7.out R7.out HYl.out HYd.out (by omega)).mono ?_
      rintro e w8 ⟨p, c', rfl, hp, hpI, hpB⟩
      have Q8 : Hid (IHolds w8 bQ 2 (zs (List.replicate j 0 ++ (qh :: Q)))) := Q7.out.of_but hpB (fun h => nRQ.out h.symm)
      have R8 : Hid (Row w8 (some ⟨bD, 0, none⟩) dl) := R7.out.of_but (HAp.out _ (fun h => nRD.out h.symm)) hpB
      have B8 : Hid (Below w.heap.size w w8) := B7.out.trans (hpB.below B7.out.size (Nat.le_refl _))
      have HpI : Hid (IHolds w8 w.heap.size 2 (zs X ++ zs p ++ zs Z)) := hpI
      have HpL : Hid (p.length = k + 1) := hp.len
      have HpD : Hid (∀ x ∈ p, x < 1000000000) := hp.low
      have HDV := HDv.out
      have hYl := HYl.out
      clear Q7 R7 B7 I7 c7 hpI hpB
      rcases hqh with hqq | hqq
      · have hdn := hp.done (by omega) (by omega) (vl 1000000000 Y % D) (by rw [HDV, hqq]; exact put_right HDM.out) (Nat.lt_trans HML.out hDB)
        obtain ⟨rfl, hpv⟩ := hdn
        have S8 : Hid (DivS 1000000000 N D k j (X ++ p ++ Z) (qh :: Q)) := HSTEP.out p qh HpL.out HpD.out hqq hpv
        have I8 : Hid (IHolds w8 w.heap.size 2 (zs (X ++ p ++ Z))) := by show IHolds _ _ _ _; rw [zs_append, zs_append]; exact HpI.out
        have L8 : Hid ((X ++ p ++ Z).length = ln + 1) := HZl.out p HpL.out
        have LQ : Hid (j + (qh :: Q).length = M) := by show _ = _; rw [List.length_cons]; omega
        clear hp hqq hpv HSTEP HDM HML hq9 HDV hYl hdl HPUT
        go_wp2_with fail
        go_roundg (gk - 1)
        case measure => omega
        case rel => exact ⟨j, X ++ p ++ Z, qh :: Q, by omega, by omega, by first | rfl | go_num, LQ.out, L8.out, S8.out, I8.out, Q8.out, R8.out, B8.out⟩
      · have hdn := hp.under (by omega) (by omega) (D - vl 1000000000 Y % D) (by have := HML.out; omega) (by rw [HDV, hqq]; exact put_high HDM.out HML.out) (by omega)
        obtain ⟨rfl, hpv⟩ := hdn
        have HPV : Hid (vl 1000000000 p + D = vl 1000000000 Y % D + 1000000000 ^ (k + 1)) := by have := HML.out; show _ = _; omega
        have HML2 : Hid (vl 1000000000 Y % D < 1000000000 ^ (k + 1)) := Nat.lt_trans HML.out hDB
        have HPU2 := HPUT.out w8 p 1 HpI.out R8.out HpL.out HpD.out (by omega)
        have HPUH : Hid (Calls Tryd.prog 52 #[.slice (some ⟨w.heap.size, j, none⟩) (k + 1) (ln + 1 - j), .slice (some ⟨bD, 0, none⟩) k (k + 1), .int .i64 1] w8 fun e w' => ∃ (p2 : List Nat) (c : Int), e = .returned (.int .i64 c) ∧ Puts 1000000000 p dl 1 (k + 1) p2 c ∧ IHolds w' w.heap.size 2 (zs X ++ zs p2 ++ zs Z) ∧ But w.heap.size w8 w') := HPU2
        have HQQ : Hid (qh = vl 1000000000 Y / D + 1) := hqq
        clear hp hqq hpv HPU2 HPUT hq9 HDM HML
        go_wp2_with fail
        refine HPUH.out.mono ?_
        rintro e w9 ⟨p2, c2, rfl, hp2, hI2, hB2⟩
        have hpv2 := hp2.past (by have := HpL.out; omega) (by omega) (vl 1000000000 Y % D) (by rw [HDV]; exact HPV.out) HML2.out
        obtain ⟨yq, hyq⟩ : ∃ yq, yq = vl 1000000000 Y / D := ⟨_, rfl⟩
        have S9 : Hid (DivS 1000000000 N D k j (X ++ p2 ++ Z) (yq :: Q)) := HSTEP.out p2 yq hp2.len hp2.low hyq hpv2
        have I9 : IHolds w9 w.heap.size 2 (zs (X ++ p2 ++ Z)) := by rw [zs_append, zs_append]; exact hI2
        have L9 : Hid ((X ++ p2 ++ Z).length = ln + 1) := HZl.out p2 hp2.len
        have LQ : Hid (j + (yq :: Q).length = M) := by show _ = _; rw [List.length_cons]; omega
        have Q9 : IHolds w9 bQ 2 (zs (List.replicate j 0 ++ (qh :: Q))) := Q8.out.of_but hB2 (fun h => nRQ.out h.symm)
        have R9 : Row w9 (some ⟨bD, 0, none⟩) dl := R8.out.of_but (HAp.out _ (fun h => nRD.out h.symm)) hB2
        have B9 : Below w.heap.size w w9 := B8.out.trans (hB2.below B8.out.size (Nat.le_refl _))
        have c9 : w9.cell? ⟨bQ, j, none⟩ = some (I qh) := by
          rw [Q9.cell j (by simp [zs] <;> omega)]
          simp [zs]
        have f9 : w9.frozen? ⟨bQ, j, none⟩ = false := Q9.frozen _
        have eqh : (qh : Int) - 1 = (yq : Int) := by have := HQQ.out; rw [← hyq] at this; omega
        have bt : But bQ w9 (w9.setCell ⟨bQ, j, none⟩ (.int .i64 (yq : Int))) := (But.refl _ _).setCell _ _
        have Q10 : Hid (IHolds (w9.setCell ⟨bQ, j, none⟩ (.int .i64 (yq : Int))) bQ 2 (zs (List.replicate j 0 ++ (yq :: Q)))) := by
          have := Q9.set j (.int .i64 (yq : Int))
          rw [rep_reset j qh yq Q _ rfl] at this
          exact this
        have I10 : Hid (IHolds (w9.setCell ⟨bQ, j, none⟩ (.int .i64 (yq : Int))) w.heap.size 2 (zs (X ++ p2 ++ Z))) := I9.of_but bt nRQ.out
        have R10 : Hid (Row (w9.setCell ⟨bQ, j, none⟩ (.int .i64 (yq : Int))) (some ⟨bD, 0, none⟩) dl) := R9.of_but (HAp.out _ nDQ.out) bt
        have B10 : Hid (Below w.heap.size w (w9.setCell ⟨bQ, j, none⟩ (.int .i64 (yq : Int)))) := B9.setCell hge.out _
        clear hp2 hI2 hB2 hpv2 hyq I9 Q9 R9 B9 bt HPUH Q8 R8 B8 HpI HpL HpD HPV HML2 HQQ HDV hYl hdl HSTEP
        go_wp2_with fail
        go_roundg (gk - 1)
        case measure => omega
        case rel => exact ⟨j, X ++ p2 ++ Z, yq :: Q, by omega, by omega, by first | rfl | go_num, LQ.out, L9.out, S9.out, I10.out, Q10.out, R10.out, B10.out⟩
    · obtain rfl : i = 0 := by omega
      obtain ⟨e1, e2⟩ := HEND.out k R Q hS
      have HQ : Hid (vl 1000000000 Q = q) := e1
      have HRr : Hid (vl 1000000000 R = rr) := e2
      have HRd : Hid (∀ x ∈ R, x < 1000000000) := hS.low
      have HQd : Hid (∀ x ∈ Q, x < 1000000000) := hS.lowQ
      have HQl : Hid (Q.length = M) := by show _ = _; omega
      have HRl2 : Hid (R.length = ln + 1) := hRl
      have HRI : Hid (IHolds wr w.heap.size 2 (zs R)) := hRI
      have HQI : Hid (IHolds wr bQ 2 (zs Q)) := by show IHolds _ _ _ _; simpa using hQI
      have HB : Hid (Below w.heap.size w wr) := hB
      clear e1 e2 hS hRI hQI hB hrow hRl hQl hMe
      go_wp2_with fail
      refine (trimmed_at wr w.heap.size (ln + 1) (ln + 1) 2 R HRI.out HRl2.out (Nat.le_refl _) HRd.out (by omega)).mono ?_
      rintro e W3 ⟨⟨v, rfl, hv⟩, rfl⟩
      rw [HRr.out] at hv
      have HVV : Hid (NumV W3 1000000000 rr v) := hv
      clear hv
      go_wp2_with fail
      refine (HOL.out W3 v HVV.out).mono ?_
      rintro e W4 ⟨⟨v2, y2, rfl, hv2⟩, hb2⟩
      have HV2 : Hid (NumV W4 1000000000 r v2) := hv2
      have HQI4 : Hid (IHolds W4 bQ 2 (zs Q)) := HQI.out.of_below hb2
      have HB4 : Hid (Below w.heap.size w W4) := HB.out.trans (hb2.mono HB.out.size)
      clear hv2 hb2
      go_wp2_with fail
      simp only [Sem.run_pure, Result.andThen_ok]
      go_wp2_with fail
      refine (trimmed_at W4 bQ M M 2 Q HQI4.out HQl.out (Nat.le_refl _) HQd.out (by omega)).mono ?_
      rintro e W5 ⟨⟨v3, rfl, hv3⟩, rfl⟩
      rw [HQ.out] at hv3
      have HV3 : Hid (NumV W5 1000000000 q v3) := hv3
      clear hv3
      go_wp2_with fail
      go_ret2
      exact ⟨⟨v3, v2, rfl, HV3.out, HV2.out⟩, HB4.out⟩

/-- Division, of values that are numbers, by what is not 0. -/
theorem overV {W : World} {n d : Nat} {v1 v2 : Value} (h1 : NumV W 1000000000 n v1) (h2 : NumV W 1000000000 d v2) (hd : d ≠ 0) (b1 : (dg 1000000000 n).length ≤ 1000000) (b2 : (dg 1000000000 d).length ≤ 1000000) :
    Calls Tryd.prog 56 #[v1, v2] W fun e w' => (∃ u1 u2, e = .returned (.tuple #[u1, u2]) ∧ NumV w' 1000000000 (n / d) u1 ∧ NumV w' 1000000000 (n % d) u2) ∧ Below W.heap.size W w' := by
  obtain ⟨a1, c1, rfl, k1, r1⟩ := h1
  obtain ⟨a2, c2, rfl, k2, r2⟩ := h2
  by_cases hlt : n < d
  · exact over_low W a1 a2 c1 c2 n d r1 r2 b1 b2 hlt
  · have hl : (dg 1000000000 d).length ≠ 0 := fun e => hd ((dg_length_zero bigBase).1 e)
    by_cases h1 : (dg 1000000000 d).length = 1
    · exact over_one W a1 a2 c1 c2 n d r1 r2 b1 h1 (by omega)
    · exact over_many W a1 a2 c1 c2 n d r1 r2 b1 (by omega) (by omega)
end Go.Proofs.YtflabehlaiocaaaDoor

