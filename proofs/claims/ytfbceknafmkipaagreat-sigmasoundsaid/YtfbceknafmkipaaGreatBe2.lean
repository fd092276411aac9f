/- How often a modulus is taken off at once. -/
import Derived.Test.YtfbceknafmkipaaGreatBb
import Derived.Test.YtfbceknafmkipaaGreatBa
import Derived.Test.YtfbceknafmkipaaGreatBc
set_option linter.unusedSimpArgs false
set_option linter.unusedVariables false
namespace Go.Proofs.YtfbceknafmkipaaGreat
open Go.RowKit Go.Deep Go.PlainAid

theorem P6 (k : Nat) : 0 < 65536 ^ k := Nat.pow_pos (by omega)
/-- The first digit. -/
theorem top_digit {n : Nat} (h : 0 < (dg 65536 n).length) : (dg 65536 n).getD ((dg 65536 n).length - 1) 0 = n / 65536 ^ ((dg 65536 n).length - 1) := by
  have l := lt_pow_dg b16 n
  rw [dg_getD b16]
  refine Nat.mod_eq_of_lt (Nat.div_lt_of_lt_mul ?_)
  rw [← Nat.pow_succ, Nat.succ_eq_add_one, Nat.sub_add_cancel h]
  exact l
/-- The first two. -/
theorem top_digits {n : Nat} (h : 1 < (dg 65536 n).length) : (dg 65536 n).getD ((dg 65536 n).length - 1) 0 * 65536 + (dg 65536 n).getD ((dg 65536 n).length - 2) 0 = n / 65536 ^ ((dg 65536 n).length - 2) := by
  rw [top_digit (by omega), dg_getD b16]
  have e : 65536 ^ ((dg 65536 n).length - 1) = 65536 ^ ((dg 65536 n).length - 2) * 65536 := by rw [← Nat.pow_succ]; congr 1; omega
  rw [e, ← Nat.div_div_eq_div_mul]
  omega
theorem fits {a m n t e k : Nat} (h : n * (m / 65536 ^ t + 1) ≤ a / 65536 ^ e) (hk : t + k = e) : n * m * 65536 ^ k ≤ a := by
  have h1 : m ≤ (m / 65536 ^ t + 1) * 65536 ^ t := by
    rw [Nat.mul_comm]
    exact Nat.le_of_lt (Nat.lt_mul_div_succ m (P6 t))
  have g1 : n * m * 65536 ^ k ≤ n * ((m / 65536 ^ t + 1) * 65536 ^ t) * 65536 ^ k := Nat.mul_le_mul_right _ (Nat.mul_le_mul_left _ h1)
  have g2 : n * ((m / 65536 ^ t + 1) * 65536 ^ t) * 65536 ^ k = n * (m / 65536 ^ t + 1) * 65536 ^ e := by rw [← Nat.mul_assoc, Nat.mul_assoc, ← Nat.pow_add, hk]
  have g3 : n * (m / 65536 ^ t + 1) * 65536 ^ e ≤ a / 65536 ^ e * 65536 ^ e := Nat.mul_le_mul_right _ h
  have g4 : a / 65536 ^ e * 65536 ^ e ≤ a := Nat.div_mul_le_self _ _
  omega
/-- Many at a time. -/
theorem off_many {a m u t n k : Nat} (la : (dg 65536 m).length ≤ (dg 65536 a).length) (lm : 0 < (dg 65536 m).length) (hu : u = (dg 65536 m).getD ((dg 65536 m).length - 1) 0) (ht : t = (dg 65536 a).getD ((dg 65536 a).length - 1) 0)
    (hn : n = t / (u + 1)) (hk : k + (dg 65536 m).length = (dg 65536 a).length) : n * m * 65536 ^ k ≤ a ∧ n < 65536 := by
  have h1 := top_digit (n := m) lm
  have h2 := top_digit (n := a) (by omega)
  have h3 : t < 65536 := by rw [ht]; exact getD_lt (dg_mem b16 a) _
  have h4 : n * (u + 1) ≤ t := by rw [hn]; exact Nat.div_mul_le_self _ _
  have h5 : n ≤ t := by rw [hn]; exact Nat.div_le_self _ _
  refine ⟨fits (t := (dg 65536 m).length - 1) (e := (dg 65536 a).length - 1) ?_ (by omega), by omega⟩
  rw [← h1, ← h2, ← hu, ← ht]
  exact h4
/-- Many at a time, one digit lower. -/
theorem off_more {a m u t s n k : Nat} (la : (dg 65536 m).length < (dg 65536 a).length) (lm : 0 < (dg 65536 m).length) (hu : u = (dg 65536 m).getD ((dg 65536 m).length - 1) 0) (ht : t = (dg 65536 a).getD ((dg 65536 a).length - 1) 0)
    (hs : s = (dg 65536 a).getD ((dg 65536 a).length - 2) 0) (h0 : t / (u + 1) = 0) (hn : n = (t * 65536 + s) / (u + 1)) (hk : k + 1 + (dg 65536 m).length = (dg 65536 a).length) : n * m * 65536 ^ k ≤ a ∧ n < 65536 ∧ 0 < n := by
  have h1 := top_digit (n := m) lm
  have h2 := top_digits (n := a) (by omega)
  have h3 : t < 65536 := by rw [ht]; exact getD_lt (dg_mem b16 a) _
  have h6 : s < 65536 := by rw [hs]; exact getD_lt (dg_mem b16 a) _
  have h7 : u < 65536 := by rw [hu]; exact getD_lt (dg_mem b16 m) _
  have h8 : t < u + 1 := by
    rcases Nat.lt_or_ge t (u + 1) with h | h
    · exact h
    · have := Nat.div_pos h (by omega); omega
  have h9 : t ≠ 0 := by
    have := dg_topped b16 a
    rcases this with h | h
    · rw [h] at la; simp at la
    · rw [ht]; exact h
  have h4 : n * (u + 1) ≤ t * 65536 + s := by rw [hn]; exact Nat.div_mul_le_self _ _
  have h5 : n < 65536 := by rw [hn]; exact Nat.div_lt_of_lt_mul (by omega)
  have h10 : 0 < n := by rw [hn]; exact Nat.div_pos (by omega) (by omega)
  refine ⟨fits (t := (dg 65536 m).length - 1) (e := (dg 65536 a).length - 2) ?_ (by omega), h5, h10⟩
  rw [← h1, ← h2, ← hu, ← ht, ← hs]
  exact h4
theorem off_less {a m n k : Nat} (hm : 0 < m) (hn : 0 < n) (h : n * m * 65536 ^ k ≤ a) : a - n * m * 65536 ^ k < a ∧ (a - n * m * 65536 ^ k) % m = a % m := by
  have h1 : 0 < n * m * 65536 ^ k := Nat.mul_pos (Nat.mul_pos hn hm) (P6 k)
  refine ⟨by omega, ?_⟩
  have e : (a - n * m * 65536 ^ k + n * m * 65536 ^ k) % m = a % m := by rw [Nat.sub_add_cancel h]
  rw [show n * m * 65536 ^ k = m * (n * 65536 ^ k) by rw [Nat.mul_comm n m, Nat.mul_assoc]] at e ⊢
  rw [Nat.add_mul_mod_self_left] at e
  exact e
/-- What is taken off, moved up. -/
def moved (k : Nat) (l : List Nat) : List Nat := List.replicate k 0 ++ l
theorem moved_mem {k : Nat} {l : List Nat} (h : ∀ d ∈ l, d < 65536) : ∀ d ∈ moved k l, d < 65536 := by
  intro d hd
  rcases List.mem_append.1 hd with h1 | h1
  · rw [List.mem_replicate] at h1; omega
  · exact h d h1
theorem vl_moved (k : Nat) (l : List Nat) : vl 65536 (moved k l) = vl 65536 l * 65536 ^ k := by
  rw [moved, vl_append, vl_zeros, List.length_replicate, Nat.zero_add, Nat.mul_comm]
theorem moved_low {k i : Nat} {l : List Nat} (h : i < k) : (moved k l).getD i 0 = 0 := by
  rw [moved, List.getD_eq_getElem?_getD, List.getElem?_append_left (by simpa using h), List.getElem?_replicate]
  split <;> rfl
theorem moved_in {k i : Nat} {l : List Nat} (h : k ≤ i) (h2 : i - k < l.length) : (moved k l).getD i 0 = l[i - k] := by
  rw [moved, List.getD_eq_getElem?_getD, List.getElem?_append_right (by simpa using h), List.length_replicate, List.getElem?_eq_getElem h2]
  rfl
theorem moved_high {k i : Nat} {l : List Nat} (h : k ≤ i) (h2 : l.length ≤ i - k) : (moved k l).getD i 0 = 0 := by
  rw [moved, List.getD_eq_getElem?_getD, List.getElem?_append_right (by simpa using h), List.length_replicate, List.getElem?_eq_none h2]
  rfl
/-- What is left. -/
theorem puts_end {a m n k : Nat} {p : List Nat} {c : Int} (h : Puts 65536 (dg 65536 a) (moved k (dg 65536 m)) (-(n : Int)) (dg 65536 a).length p c) (hn : n * m * 65536 ^ k ≤ a) (h0 : 0 < n) (hc : c ≤ 0) : vl 65536 p = a - n * m * 65536 ^ k := by
  have eq := h.eq
  have hl : (moved k (dg 65536 m)).length ≤ (dg 65536 a).length ∨ m = 0 := by
    by_cases hm : m = 0
    · exact Or.inr hm
    · refine Or.inl ?_
      simp only [moved, List.length_append, List.length_replicate]
      have h1 : 1 * m * 65536 ^ k ≤ n * m * 65536 ^ k := Nat.mul_le_mul_right _ (Nat.mul_le_mul_right _ h0)
      rw [Nat.one_mul] at h1
      have hq : (dg 65536 m).length ≠ 0 := by rw [Ne, dg_length_zero b16]; exact hm
      have h2 : 65536 ^ ((dg 65536 m).length - 1) ≤ m := pow_le_of_len b16 _ _ (by omega)
      have h3 : 65536 ^ ((dg 65536 m).length - 1) * 65536 ^ k ≤ m * 65536 ^ k := Nat.mul_le_mul_right _ h2
      rw [← Nat.pow_add] at h3
      have h4 := lt_pow_dg b16 a
      have h5 : 65536 ^ ((dg 65536 m).length - 1 + k) < 65536 ^ (dg 65536 a).length := by omega
      have h6 := (Nat.pow_lt_pow_iff_right (by omega)).1 h5
      omega
  have e2 : vl 65536 ((moved k (dg 65536 m)).take (dg 65536 a).length) = m * 65536 ^ k := by
    rcases hl with hl | hl
    · rw [List.take_of_length_le hl, vl_moved, vl_dg b16]
    · have : vl 65536 ((moved k (dg 65536 m)).take (dg 65536 a).length) ≤ vl 65536 (moved k (dg 65536 m)) := vl_take_le _ _ _
      rw [vl_moved, vl_dg b16] at this
      subst hl
      omega
  rw [List.take_of_length_le (Nat.le_refl _), vl_dg b16, e2] at eq
  have lp := vl_lt 65536 p h.low
  rw [h.len] at lp
  rw [Nat.mul_assoc] at hn ⊢
  clear e2 hl
  generalize m * 65536 ^ k = X at *
  rw [← Int.natCast_pow] at eq
  generalize 65536 ^ (dg 65536 a).length = Z at *
  rw [Int.neg_mul, ← Int.natCast_mul] at eq
  generalize n * X = Q at *
  have hcz : c = 0 := by
    rcases Int.lt_or_eq_of_le hc with h1 | h1
    · exfalso
      have h2 : c * (Z : Int) ≤ (-1) * (Z : Int) := Int.mul_le_mul_of_nonneg_right (by omega) (by omega)
      omega
    · exact h1
  rw [hcz] at eq
  omega
end Go.Proofs.YtfbceknafmkipaaGreat

/- The reference's Compare. -/
set_option linter.unusedSimpArgs false
set_option linter.unusedVariables false
namespace Go.Proofs.YtfbceknafmkipaaGreat
open Go.RowKit Go.Deep Go.PlainAid

set_option maxRecDepth 100000 in
set_option maxHeartbeats 2000000 in
theorem compare_any (w : World) (a1 a2 : Option Addr) (cap1 cap2 n m : Nat) (h1 : Row w a1 (dg 65536 n)) (h2 : Row w a2 (dg 65536 m)) (b1 : (dg 65536 n).length ≤ 1000000) (b2 : (dg 65536 m).length ≤ 1000000) :
    Calls Tryz.prog 54 #[.slice a1 (dg 65536 n).length cap1, .slice a2 (dg 65536 m).length cap2] w fun e w' => e = .returned (.int .i64 (cmp3 (n : Int) (m : Int))) ∧ ∃ k, w' = w.drewN k := by
  have K1 : Hid (∀ i (hl : i < (dg 65536 n).length) (hr : i < (dg 65536 m).length), (dg 65536 n).drop (i + 1) = (dg 65536 m).drop (i + 1) → (dg 65536 n)[i] < (dg 65536 m)[i] → cmp3 (n : Int) (m : Int) = -1) := fun i => cmp_at_lt (by omega)
  have K2 : Hid (∀ i (hl : i < (dg 65536 n).length) (hr : i < (dg 65536 m).length), (dg 65536 n).drop (i + 1) = (dg 65536 m).drop (i + 1) → (dg 65536 m)[i] < (dg 65536 n)[i] → cmp3 (n : Int) (m : Int) = 1) := fun i => cmp_at_gt (by omega)
  have K3 : Hid ((dg 65536 n).drop 0 = (dg 65536 m).drop 0 → cmp3 (n : Int) (m : Int) = 0) := cmp_same (by omega)
  have K4 : Hid ((dg 65536 n).length ≠ (dg 65536 m).length → cmp3 ((dg 65536 n).length : Int) ((dg 65536 m).length : Int) = cmp3 (n : Int) (m : Int)) := cmp_len (by omega)
  generalize cmp3 (n : Int) (m : Int) = c at *
  generalize dg 65536 n = l1 at *
  generalize dg 65536 m = l2 at *
  have H1 : Hid (Row w a1 l1) := h1
  have H2 : Hid (Row w a2 l2) := h2
  clear h1 h2
  go_enter Tryz.func54, Tryz.ntmps54
  by_cases hlen : l1.length = l2.length
  · rw [hlen]
    go_wp2_with fail
    go_loopg [5] (l1.length + 1) (fun gk v5 wr => ∃ i : Nat, i + 1 = gk ∧ i ≤ l1.length ∧ v5 = .int .i64 ((i : Int) - 1) ∧ l1.drop i = l2.drop i ∧ ∃ k, wr = w.drewN k)
    case atStart => exact ⟨l1.length, rfl, Nat.le_refl _, by rw [hlen], by rw [List.drop_length, hlen, List.drop_length], 0, rfl⟩
    case round =>
      obtain ⟨i, hi, hil, rfl, hd, k, hwr⟩ := hrel
      have HW : Hid (∃ k, wr = w.drewN k) := ⟨k, hwr⟩
      have HD : Hid (l1.drop i = l2.drop i) := hd
      clear hd
      by_cases h0 : 0 < i
      · obtain ⟨b1, o1, rfl, c1⟩ := H1.out (i - 1) (by omega)
        obtain ⟨b2, o2, rfl, c2⟩ := H2.out (i - 1) (by omega)
        have d1 : wr.cell? ⟨b1, o1 + (i - 1), none⟩ = some (I l1[i - 1]) := by rw [hwr]; exact c1
        have d2 : wr.cell? ⟨b2, o2 + (i - 1), none⟩ = some (I l2[i - 1]) := by rw [hwr]; exact c2
        clear c1 c2 hwr
        have HE : Hid (∀ x, x = i - 1 → l1.drop (x + 1) = l2.drop (x + 1)) := fun x hx => by have := HD.out; rw [show x + 1 = i by omega]; exact this
        have t0 : ((i : Int) - 1).toNat = i - 1 := by omega
        have t1 : (0 : Int) ≤ (i : Int) - 1 := by omega
        have t2 : (i : Int) - 1 < (l2.length : Int) := by omega
        have q1 : i - 1 < l1.length := by omega
        have q2 : i - 1 < l2.length := by omega
        have G1 : Hid (l1[i - 1]'q1 < l2[i - 1]'q2 → c = -1) := K1.out (i - 1) q1 q2 (HE.out _ rfl)
        have G2 : Hid (l2[i - 1]'q2 < l1[i - 1]'q1 → c = 1) := K2.out (i - 1) q1 q2 (HE.out _ rfl)
        have G3 : Hid (l1[i - 1]'q1 = l2[i - 1]'q2 → l1.drop (i - 1) = l2.drop (i - 1)) := drop_same_step (l := l1) (r := l2) (i := i - 1) q1 q2 (HE.out _ rfl)
        clear K1 K2 K3 K4 HE HD H1 H2
        generalize l1[i - 1] = x at *
        generalize l2[i - 1] = y at *
        by_cases hxy : x = y
        · subst hxy
          go_wp2_with fail
          go_quiet (fail)
          have HW2 : Hid (∃ k, wr.drewN nq = w.drewN k) := drewN_ex HW.out nq
          clear d1 d2 HW
          generalize wr.drewN nq = wq at *
          go_wp2_with fail
          go_roundg (gk - 1)
          case measure => omega
          case rel => exact ⟨i - 1, by omega, by omega, by go_num, G3.out (by first | trivial | rfl), HW2.out⟩
        · have hnb : ((x : Int) != (y : Int)) = true := bne_iff_ne.2 (by omega)
          go_wp2_with fail
          go_quiet (fail)
          have d3 : (wr.drewN nq).cell? ⟨b1, o1 + (i - 1), none⟩ = some (I x) := d1
          have d4 : (wr.drewN nq).cell? ⟨b2, o2 + (i - 1), none⟩ = some (I y) := d2
          have HW2 : Hid (∃ k, wr.drewN nq = w.drewN k) := drewN_ex HW.out nq
          clear d1 d2 HW
          generalize wr.drewN nq = wq at *
          rcases Nat.lt_or_gt_of_ne hxy with h | h
          · have hne : (x : Int) < (y : Int) := by omega
            have hc := G1.out h
            go_wp2_with fail
            go_quiet (fail)
            go_wp2_with fail
            go_ret
            exact ⟨ret_i hc.symm, drewN_ex HW2.out nq⟩
          · have hne : ¬ (x : Int) < (y : Int) := by omega
            have hc := G2.out h
            go_wp2_with fail
            go_quiet (fail)
            go_wp2_with fail
            go_ret
            exact ⟨ret_i hc.symm, drewN_ex HW2.out nq⟩
      · obtain rfl : i = 0 := by omega
        have hc := K3.out HD.out
        clear hwr
        go_wp2_with fail
        go_ret
        exact ⟨ret_i hc.symm, HW.out⟩
  · have hne : ((l1.length : Int) != (l2.length : Int)) = true := by simp; omega
    have hc := K4.out hlen
    rcases Nat.lt_or_gt_of_ne hlen with h | h
    · have hlt : (l1.length : Int) < (l2.length : Int) := by omega
      rw [cmp3_lt hlt] at hc
      have HC : Hid (-1 = c) := hc
      clear hc
      go_wp2_with fail
      go_ret
      exact ⟨ret_i HC.out, 0, rfl⟩
    · have hlt : ¬ (l1.length : Int) < (l2.length : Int) := by omega
      rw [cmp3_gt (by omega)] at hc
      have HC : Hid (1 = c) := hc
      clear hc
      go_wp2_with fail
      go_ret
      exact ⟨ret_i HC.out, 0, rfl⟩
theorem compareV {W : World} {n m : Nat} {v1 v2 : Value} (h1 : NumV W 65536 n v1) (h2 : NumV W 65536 m v2) (b1 : (dg 65536 n).length ≤ 1000000) (b2 : (dg 65536 m).length ≤ 1000000) :
    Calls Tryz.prog 54 #[v1, v2] W fun e w' => e = .returned (.int .i64 (cmp3 (n : Int) (m : Int))) ∧ Below W.heap.size W w' := by
  obtain ⟨a1, c1, rfl, k1, r1⟩ := h1
  obtain ⟨a2, c2, rfl, k2, r2⟩ := h2
  refine (compare_any W a1 a2 c1 c2 n m r1 r2 b1 b2).mono ?_
  rintro e w' ⟨rfl, k, rfl⟩
  exact ⟨rfl, ⟨rfl, rfl, rfl, Nat.le_refl _, fun _ _ => rfl⟩⟩
end Go.Proofs.YtfbceknafmkipaaGreat

/- The reference's take. -/
set_option linter.unusedSimpArgs false
set_option linter.unusedVariables false
namespace Go.Proofs.YtfbceknafmkipaaGreat
open Go.RowKit Go.Deep Go.PlainAid

theorem laid_set (p : List Nat) (L i Y : Nat) (hp : p.length = i) (hi : i < L) : (zs (p ++ List.replicate (L - i) 0)).set i (.int .i64 (Y : Int)) = zs (p ++ [Y] ++ List.replicate (L - (i + 1)) 0) := by
  rw [zs_set _ i Y _ rfl]
  congr 1
  rw [List.set_append_right _ _ (by omega), show i - p.length = 0 by omega, show L - i = (L - (i + 1)) + 1 by omega, List.replicate_succ, List.set_cons_zero, List.append_assoc]
  rfl
/-- One digit. -/
theorem digit_off {y dn z : Nat} {D : Int} (hy : y < 65536) (hd : dn ≤ 65536) (hz : z ≤ 4294836225) (hD : D = (y : Int) - (dn : Int) - (z : Int)) :
    ∃ E Y : Nat, E ≤ 65536 ∧ Y < 65536 ∧ (y : Int) - (z : Int) - (dn : Int) = (Y : Int) - (E : Int) * 65536 ∧ (0 ≤ D → E = 0 ∧ D = (Y : Int)) ∧ (D < 0 → (65535 - D) / 65536 = (E : Int) ∧ D + (E : Int) * 65536 = (Y : Int)) := by
  by_cases h : 0 ≤ D
  · exact ⟨0, D.toNat, by omega, by omega, by omega, fun _ => ⟨rfl, by omega⟩, fun h => by omega⟩
  · exact ⟨((65535 - D) / 65536).toNat, (D + (65535 - D) / 65536 * 65536).toNat, by omega, by omega, by omega, fun h => by omega, fun _ => ⟨by omega, by omega⟩⟩
set_option maxRecDepth 100000 in
set_option maxHeartbeats 4000000 in
theorem take_any (w : World) (a1 a2 : Option Addr) (cap1 cap2 a m n k : Nat) (h1 : Row w a1 (dg 65536 a)) (h2 : Row w a2 (dg 65536 m)) (b1 : (dg 65536 a).length ≤ 1000000) (b2 : (dg 65536 m).length ≤ 1000000) (b3 : k ≤ 1000000) (n0 : 0 < n) (n9 : n < 65536) (hle : n * m * 65536 ^ k ≤ a) :
    Calls Tryz.prog 106 #[.slice a1 (dg 65536 a).length cap1, .slice a2 (dg 65536 m).length cap2, .int .i64 (n : Int), .int .i64 (k : Int)] w fun e w' => (∃ v, e = .returned v ∧ NumV w' 65536 (a - n * m * 65536 ^ k) v) ∧ Below w.heap.size w w' := by
  have HEnd : Hid (∀ p c, Puts 65536 (dg 65536 a) (moved k (dg 65536 m)) (-(n : Int)) (dg 65536 a).length p c → c ≤ 0 → vl 65536 p = a - n * m * 65536 ^ k) := fun p c h hc => puts_end h hle n0 hc
  have HD1 : Hid (∀ d ∈ dg 65536 a, d < 65536) := dg_mem b16 a
  have HD2 : Hid (∀ d ∈ dg 65536 m, d < 65536) := dg_mem b16 m
  clear hle
  generalize a - n * m * 65536 ^ k = R at *
  generalize dg 65536 a = l1 at *
  generalize dg 65536 m = l2 at *
  have H1 : Hid (Row w a1 l1) := h1
  have H2 : Hid (Row w a2 l2) := h2
  clear h1 h2
  obtain ⟨K, hK⟩ : ∃ K, K = l1.length := ⟨_, rfl⟩
  have HK : Hid (l1.length = K) := hK.symm
  rw [← hK] at b1 ⊢
  obtain ⟨K2, hK2⟩ : ∃ K, K = l2.length := ⟨_, rfl⟩
  have HK2 : Hid (l2.length = K2) := hK2.symm
  rw [← hK2] at b2 ⊢
  clear hK hK2
  have hmk := fun w => makeNat (K : Int) K rfl (by omega) w
  go_enter Tryz.func106, Tryz.ntmps106
  go_wp2_with fail
  have q1 : Hid (IHolds (w.alloc (.cells (zs (List.replicate K 0)).toArray 3)) w.heap.size 3 (zs (List.replicate K 0))) := IHolds.new w 3 _
  have q2 : Hid (Below w.heap.size w (w.alloc (.cells (zs (List.replicate K 0)).toArray 3))) := (Below.refl _ w).alloc (Nat.le_refl _) _
  clear hmk
  generalize w.alloc (.cells (zs (List.replicate K 0)).toArray 3) = W0 at *
  go_loopg [10, 11] K (fun gk v10 v11 wr => ∃ (i dn : Nat) (p : List Nat), i + gk = K ∧ v10 = .int .i64 (dn : Int) ∧ v11 = .int .i64 (i : Int) ∧ Puts 65536 l1 (moved k l2) (-(n : Int)) i p (-(dn : Int)) ∧ dn ≤ 65536 ∧ IHolds wr w.heap.size 3 (zs (p ++ List.replicate (K - i) 0)) ∧ Below w.heap.size w wr)
  case atStart => exact ⟨0, 0, [], by omega, rfl, rfl, Puts.zero _ _ _ _, by omega, by simpa using q1.out, q2.out⟩
  case round =>
    obtain ⟨i, dn, p, hi, rfl, rfl, hP, dn9, hI, hB⟩ := hrel
    clear q1 q2
    have HP : Hid (Puts 65536 l1 (moved k l2) (-(n : Int)) i p (-(dn : Int))) := hP
    have HI : Hid (IHolds wr w.heap.size 3 (zs (p ++ List.replicate (K - i) 0))) := hI
    have HB : Hid (Below w.heap.size w wr) := hB
    clear hP hI hB
    by_cases hlt : i < K
    · have il : (i : Int) < (K : Int) := by omega
      have hl1 : i < l1.length := by rw [HK.out]; exact hlt
      obtain ⟨g1, o1, rfl, c1⟩ := H1.out.of_below HB.out i hl1
      have y9 : l1[i] < 65536 := HD1.out _ (List.getElem_mem _)
      have hx9 := getD_lt (moved_mem (k := k) HD2.out) i
      have c3 : wr.cell? ⟨w.heap.size, i, none⟩ = some (I 0) := by
        have e := HI.out.at i (by rw [List.length_append, HP.out.len, List.length_replicate]; omega)
        rw [e]
        congr 2
        rw [List.getElem_append_right (by rw [HP.out.len]; omega), List.getElem_replicate]
      have f3 : wr.frozen? ⟨w.heap.size, i, none⟩ = false := HI.out.frozen _
      have hST : Hid (∀ (X Y E : Nat), X = (moved k l2).getD i 0 → Y < 65536 → (l1[i] : Int) - (n : Int) * (X : Int) - (dn : Int) = (Y : Int) - (E : Int) * 65536 → Puts 65536 l1 (moved k l2) (-(n : Int)) (i + 1) (p ++ [Y]) (-(E : Int))) := fun X Y E hX hY he => by
        refine HP.out.step b16 Y _ hY HD1.out (moved_mem HD2.out) ?_
        rw [← hX, List.getD_eq_getElem?_getD, List.getElem?_eq_getElem hl1, Option.getD_some, Int.neg_mul, Int.neg_mul]
        generalize (n : Int) * (X : Int) = z at *
        omega
      have hSI : Hid (∀ Y : Nat, IHolds (wr.setCell ⟨w.heap.size, i, none⟩ (.int .i64 (Y : Int))) w.heap.size 3 (zs (p ++ [Y] ++ List.replicate (K - (i + 1)) 0))) := fun Y => by
        have := HI.out.set i (.int .i64 (Y : Int))
        rw [laid_set p K i Y HP.out.len hlt] at this
        exact this
      have hSB : Hid (∀ Y : Nat, Below w.heap.size w (wr.setCell ⟨w.heap.size, i, none⟩ (.int .i64 (Y : Int)))) := fun Y => HB.out.setCell (Nat.le_refl _) _
      have kgl : Hid (∀ h : k ≤ i, (h2 : i - k < l2.length) → ∃ g o, a2 = some ⟨g, o, none⟩ ∧ wr.cell? ⟨g, o + (i - k), none⟩ = some (I l2[i - k])) := fun h h2 => H2.out.of_below HB.out (i - k) h2
      generalize l1[i] = y at *
      clear HP HI H1 HEnd HD1 hl1 HB
      obtain ⟨D1, hD1⟩ : ∃ D1 : Int, D1 = (y : Int) - (dn : Int) := ⟨_, rfl⟩
      have kd1 : (y : Int) - (dn : Int) = D1 := hD1.symm
      have d1a : -65536 ≤ D1 := by omega
      have d1b : D1 ≤ 65535 := by omega
      by_cases hk : i < k
      · have ha1 : ¬ (k : Int) ≤ (i : Int) := by omega
        have hX : (0 : Nat) = (moved k l2).getD i 0 := (moved_low hk).symm
        obtain ⟨E, Y, E9, Y9, he, hpos, hneg⟩ := digit_off (z := 0) (D := D1) y9 dn9 (by omega) (by omega)
        have HP2 : Hid (Puts 65536 l1 (moved k l2) (-(n : Int)) (i + 1) (p ++ [Y]) (-(E : Int))) := hST.out 0 Y E hX Y9 (by omega)
        have HI2 := hSI.out Y
        have HB2 := hSB.out Y
        by_cases h0 : 0 ≤ D1
        · obtain ⟨rfl, hY⟩ := hpos h0
          have hn0 : ¬ D1 < 0 := by omega
          clear he hneg hpos hST hSI hSB kgl hX hx9 hD1 HK HK2 H2 HD2
          subst hY
          go_wp2_with fail
          go_roundg (gk - 1)
          case measure => omega
          case rel => exact ⟨i + 1, 0, p ++ [Y], by omega, by go_num, by go_num, HP2.out, by omega, HI2, HB2⟩
        · obtain ⟨kE, kY⟩ := hneg (by omega)
          have hn0 : D1 < 0 := by omega
          obtain ⟨F, hF⟩ : ∃ F : Int, F = 65535 - D1 := ⟨_, rfl⟩
          have kF : 65535 - D1 = F := hF.symm
          have F9 : F ≤ 4300000000 := by omega
          have F0 : 0 ≤ F := by omega
          rw [kF] at kE
          have kE2 : F.tdiv 65536 = (E : Int) := by rw [Int.tdiv_eq_ediv_of_nonneg F0]; exact kE
          obtain ⟨G, hG⟩ : ∃ G : Nat, G = E * 65536 := ⟨_, rfl⟩
          have kG : (E : Int) * 65536 = (G : Int) := by omega
          have G9 : G ≤ 4294967296 := by omega
          rw [kG] at kY
          clear he hneg hpos hST hSI hSB kgl hX hx9 hF hG hD1 HK HK2 H2 HD2
          go_wp2_with fail
          go_roundg (gk - 1)
          case measure => omega
          case rel => exact ⟨i + 1, E, p ++ [Y], by omega, by go_num, by go_num, HP2.out, E9, HI2, HB2⟩
      · have ha1 : (k : Int) ≤ (i : Int) := by omega
        obtain ⟨q, hq⟩ : ∃ q, q = i - k := ⟨_, rfl⟩
        have kq : (i : Int) - (k : Int) = (q : Int) := by omega
        have q9 : q ≤ 1000000 := by omega
        by_cases hql : q < K2
        · have hq1 : (q : Int) < (K2 : Int) := by omega
          have hq2 : i - k < l2.length := by rw [HK2.out, ← hq]; exact hql
          obtain ⟨g2, o2, rfl, c2⟩ := kgl.out (by omega) hq2
          have hX : l2[i - k] = (moved k l2).getD i 0 := (moved_in (by omega) hq2).symm
          rw [← hX] at hx9
          generalize l2[i - k] = x at *
          rw [← hq] at c2
          have gm : n * x ≤ 4294836225 := Nat.mul_le_mul (show n ≤ 65535 by omega) (show x ≤ 65535 by omega)
          obtain ⟨z, hz⟩ : ∃ z, z = n * x := ⟨_, rfl⟩
          have ez : (n : Int) * (x : Int) = (z : Int) := by rw [hz]; push_cast; rfl
          rw [← hz] at gm
          obtain ⟨D2, hD2⟩ : ∃ D2 : Int, D2 = D1 - (z : Int) := ⟨_, rfl⟩
          have kd2 : D1 - (z : Int) = D2 := hD2.symm
          have d2a : -4295000000 ≤ D2 := by omega
          have d2b : D2 ≤ 65535 := by omega
          obtain ⟨E, Y, E9, Y9, he, hpos, hneg⟩ := digit_off (z := z) (D := D2) y9 dn9 gm (by omega)
          have HP2 : Hid (Puts 65536 l1 (moved k l2) (-(n : Int)) (i + 1) (p ++ [Y]) (-(E : Int))) := hST.out x Y E hX Y9 (by rw [ez]; omega)
          have HI2 := hSI.out Y
          have HB2 := hSB.out Y
          by_cases h0 : 0 ≤ D2
          · obtain ⟨rfl, hY⟩ := hpos h0
            have hn0 : ¬ D2 < 0 := by omega
            clear he hneg hpos hST hSI hSB kgl hX hx9 hD1 hD2 hz hq hq2 HK HK2 H2 HD2
            subst hY
            go_wp2_with fail
            go_roundg (gk - 1)
            case measure => omega
            case rel => exact ⟨i + 1, 0, p ++ [Y], by omega, by go_num, by go_num, HP2.out, by omega, HI2, HB2⟩
          · obtain ⟨kE, kY⟩ := hneg (by omega)
            have hn0 : D2 < 0 := by omega
            obtain ⟨F, hF⟩ : ∃ F : Int, F = 65535 - D2 := ⟨_, rfl⟩
            have kF : 65535 - D2 = F := hF.symm
            have F9 : F ≤ 4300000000 := by omega
            have F0 : 0 ≤ F := by omega
            rw [kF] at kE
            have kE2 : F.tdiv 65536 = (E : Int) := by rw [Int.tdiv_eq_ediv_of_nonneg F0]; exact kE
            obtain ⟨G, hG⟩ : ∃ G : Nat, G = E * 65536 := ⟨_, rfl⟩
            have kG : (E : Int) * 65536 = (G : Int) := by omega
            have G9 : G ≤ 4294967296 := by omega
            rw [kG] at kY
            clear he hneg hpos hST hSI hSB kgl hX hx9 hF hG hD1 hD2 hz hq hq2 HK HK2 H2 HD2
            go_wp2_with fail
            go_roundg (gk - 1)
            case measure => omega
            case rel => exact ⟨i + 1, E, p ++ [Y], by omega, by go_num, by go_num, HP2.out, E9, HI2, HB2⟩
        · have hq1 : ¬ (q : Int) < (K2 : Int) := by omega
          have hX : (0 : Nat) = (moved k l2).getD i 0 := (moved_high (by omega) (by rw [HK2.out, ← hq]; omega)).symm
          obtain ⟨E, Y, E9, Y9, he, hpos, hneg⟩ := digit_off (z := 0) (D := D1) y9 dn9 (by omega) (by omega)
          have HP2 : Hid (Puts 65536 l1 (moved k l2) (-(n : Int)) (i + 1) (p ++ [Y]) (-(E : Int))) := hST.out 0 Y E hX Y9 (by omega)
          have HI2 := hSI.out Y
          have HB2 := hSB.out Y
          by_cases h0 : 0 ≤ D1
          · obtain ⟨rfl, hY⟩ := hpos h0
            have hn0 : ¬ D1 < 0 := by omega
            clear he hneg hpos hST hSI hSB kgl hX hx9 hD1 hq HK HK2 H2 HD2
            subst hY
            go_wp2_with fail
            go_roundg (gk - 1)
            case measure => omega
            case rel => exact ⟨i + 1, 0, p ++ [Y], by omega, by go_num, by go_num, HP2.out, by omega, HI2, HB2⟩
          · obtain ⟨kE, kY⟩ := hneg (by omega)
            have hn0 : D1 < 0 := by omega
            obtain ⟨F, hF⟩ : ∃ F : Int, F = 65535 - D1 := ⟨_, rfl⟩
            have kF : 65535 - D1 = F := hF.symm
            have F9 : F ≤ 4300000000 := by omega
            have F0 : 0 ≤ F := by omega
            rw [kF] at kE
            have kE2 : F.tdiv 65536 = (E : Int) := by rw [Int.tdiv_eq_ediv_of_nonneg F0]; exact kE
            obtain ⟨G, hG⟩ : ∃ G : Nat, G = E * 65536 := ⟨_, rfl⟩
            have kG : (E : Int) * 65536 = (G : Int) := by omega
            have G9 : G ≤ 4294967296 := by omega
            rw [kG] at kY
            clear he hneg hpos hST hSI hSB kgl hX hx9 hF hG hD1 hq HK HK2 H2 HD2
            go_wp2_with fail
            go_roundg (gk - 1)
            case measure => omega
            case rel => exact ⟨i + 1, E, p ++ [Y], by omega, by go_num, by go_num, HP2.out, E9, HI2, HB2⟩
    · obtain rfl : i = K := by omega
      have il : ¬ (i : Int) < (i : Int) := by omega
      have hp := HP.out
      rw [Nat.sub_self, List.replicate_zero, List.append_nil] at HI
      have HV : Hid (vl 65536 p = R) := by
        refine HEnd.out p _ ?_ (show -(dn : Int) ≤ 0 by omega)
        rw [HK.out]; exact hp
      have HL : Hid (p.length = i) := hp.len
      have HLo : Hid (∀ d ∈ p, d < 65536) := hp.low
      clear hp HP HEnd
      go_wp2_with fail
      refine (trim_at wr w.heap.size i i 3 p HI.out HL.out (Nat.le_refl _) HLo.out (by omega)).mono ?_
      rintro e W3 ⟨⟨v, rfl, hv⟩, rfl⟩
      rw [HV.out] at hv
      have HVV : Hid (NumV W3 65536 R v) := hv
      clear hv
      go_wp2_with fail
      go_ret
      exact ⟨⟨_, rfl, HVV.out⟩, HB.out⟩
end Go.Proofs.YtfbceknafmkipaaGreat

/- The reference's Minus and Mod. -/
set_option linter.unusedSimpArgs false
set_option linter.unusedVariables false
namespace Go.Proofs.YtfbceknafmkipaaGreat
open Go.RowKit Go.Deep Go.PlainAid

theorem takeV {W : World} {a m n k : Nat} {v1 v2 : Value} (h1 : NumV W 65536 a v1) (h2 : NumV W 65536 m v2) (b1 : (dg 65536 a).length ≤ 1000000) (b2 : (dg 65536 m).length ≤ 1000000) (b3 : k ≤ 1000000) (n0 : 0 < n) (n9 : n < 65536) (hle : n * m * 65536 ^ k ≤ a) :
    Calls Tryz.prog 106 #[v1, v2, .int .i64 (n : Int), .int .i64 (k : Int)] W fun e w' => (∃ v, e = .returned v ∧ NumV w' 65536 (a - n * m * 65536 ^ k) v) ∧ Below W.heap.size W w' := by
  obtain ⟨a1, c1, rfl, k1, r1⟩ := h1
  obtain ⟨a2, c2, rfl, k2, r2⟩ := h2
  exact take_any W a1 a2 c1 c2 a m n k r1 r2 b1 b2 b3 n0 n9 hle
set_option maxRecDepth 100000 in
set_option maxHeartbeats 2000000 in
theorem minusV {W : World} {a m : Nat} {v1 v2 : Value} (h1 : NumV W 65536 a v1) (h2 : NumV W 65536 m v2) (b1 : (dg 65536 a).length ≤ 1000000) (b2 : (dg 65536 m).length ≤ 1000000) (hle : m ≤ a) :
    Calls Tryz.prog 79 #[v1, v2] W fun e w' => (∃ v, e = .returned v ∧ NumV w' 65536 (a - m) v) ∧ Below W.heap.size W w' := by
  have C := takeV (n := 1) (k := 0) h1 h2 b1 b2 (by omega) (by omega) (by omega) (by simpa using hle)
  rw [Nat.one_mul, Nat.pow_zero, Nat.mul_one] at C
  obtain ⟨a1, c1, rfl, k1, r1⟩ := h1
  obtain ⟨a2, c2, rfl, k2, r2⟩ := h2
  generalize (dg 65536 a).length = L1 at *
  generalize (dg 65536 m).length = L2 at *
  have C' : Hid (Calls Tryz.prog 106 #[.slice a1 L1 c1, .slice a2 L2 c2, .int .i64 1, .int .i64 0] W fun e w' => (∃ v, e = .returned v ∧ NumV w' 65536 (a - m) v) ∧ Below W.heap.size W w') := C
  clear C r1 r2
  go_enter Tryz.func79, Tryz.ntmps79
  go_wp2_with fail
  refine C'.out.mono ?_
  rintro e U2 ⟨⟨u, rfl, hv⟩, hb⟩
  have N2 : Hid (NumV U2 65536 (a - m) u) := hv
  have B2 : Hid (Below W.heap.size W U2) := hb
  clear hv hb
  go_wp2_with fail
  go_ret
  exact ⟨⟨_, rfl, N2.out⟩, B2.out⟩
theorem NumV.cellAt {w : World} {n : Nat} {a : Option Addr} (h : Row w a (dg 65536 n)) {i : Nat} (hi : i < (dg 65536 n).length) : ∃ b o, a = some ⟨b, o, none⟩ ∧ w.cell? ⟨b, o + i, none⟩ = some (I ((dg 65536 n).getD i 0)) := by
  obtain ⟨b, o, e, c⟩ := h i hi
  exact ⟨b, o, e, by rw [c, List.getD_eq_getElem?_getD, List.getElem?_eq_getElem hi]; rfl⟩
set_option maxRecDepth 100000 in
set_option maxHeartbeats 400000 in
theorem modV {w : World} {a m : Nat} {v1 v2 : Value} (h1 : NumV w 65536 a v1) (h2 : NumV w 65536 m v2) (b1 : (dg 65536 a).length ≤ 1000000) (b2 : (dg 65536 m).length ≤ 1000000) (m0 : 0 < m) :
    Calls Tryz.prog 78 #[v1, v2] w fun e w' => (∃ v, e = .returned v ∧ NumV w' 65536 (a % m) v) ∧ Below w.heap.size w w' := by
  have lm0 : 0 < (dg 65536 m).length := by
    have : (dg 65536 m).length ≠ 0 := by rw [Ne, dg_length_zero b16]; omega
    omega
  have M1 : Hid (NumV w 65536 m v2) := h2
  have N0 : Hid (NumV w 65536 a v1) := h1
  have CC : Hid (∀ W x u, x ≤ a → NumV W 65536 x u → NumV W 65536 m v2 → Calls Tryz.prog 54 #[u, v2] W fun e w' => e = .returned (.int .i64 (cmp3 (x : Int) (m : Int))) ∧ Below W.heap.size W w') := fun W x u hx h1 h2 => compareV h1 h2 (Nat.le_trans (dg_len_mono b16 hx) b1) b2
  obtain ⟨p2, cp2, rfl, k2, r2⟩ := h2
  obtain ⟨p1, cp1, rfl, k1, r1⟩ := h1
  obtain ⟨Lm, hLm⟩ : ∃ Lm, Lm = (dg 65536 m).length := ⟨_, rfl⟩
  have HLm : Hid (Lm = (dg 65536 m).length) := hLm
  rw [← hLm] at M1 CC k2 ⊢
  clear hLm
  have HL : Hid (∀ x, x ≤ a → (dg 65536 x).length ≤ 1000000) := fun x hx => Nat.le_trans (dg_len_mono b16 hx) b1
  clear r1 r2 k1
  go_enter Tryz.func78, Tryz.ntmps78
  go_wp2_with fail
  go_loopg [0] a (fun gk v0 wr => ∃ (x : Nat) (v : Value), x = gk ∧ v = v0 ∧ NumV wr 65536 x v ∧ x % m = a % m ∧ x ≤ a ∧ Below w.heap.size w wr)
  case atStart => exact ⟨a, _, rfl, rfl, N0.out, rfl, Nat.le_refl _, Below.refl _ _⟩
  case round =>
    obtain ⟨x, v0, rfl, rfl, hv, hx, hxa, hb⟩ := hrel
    clear N0
    have N1 : Hid (NumV wr 65536 x v0) := hv
    have HX : Hid (x % m = a % m) := hx
    have B1 : Hid (Below w.heap.size w wr) := hb
    clear hv hx hb
    have C := CC.out wr x v0 hxa N1.out (M1.out.of_below B1.out)
    obtain ⟨p3, cp3, rfl, k3, r3⟩ := N1.out
    clear r3
    go_wp2_with fail
    refine C.mono ?_
    rintro e U1 ⟨rfl, hb⟩
    replace B1 := aB B1 hb
    replace N1 := aN N1 hb
    clear hb C
    have M2 := M1.out.of_below B1.out
    by_cases hge : m ≤ x
    · have hc : Hid (0 ≤ cmp3 (x : Int) (m : Int)) := by
        show _ ≤ _
        rcases Nat.lt_or_eq_of_le hge with h | h
        · rw [cmp3_gt (by omega)]; omega
        · rw [cmp3_eq (by omega)]; omega
      have hc2 := hc.out
      clear hc
      generalize cmp3 (x : Int) (m : Int) = cc at *
      have V2 := N1.out
      have lx : (dg 65536 m).length ≤ (dg 65536 x).length := dg_len_mono b16 hge
      have l9 := HL.out x hxa
      have OM := fun u t n k => off_many (a := x) (m := m) (u := u) (t := t) (n := n) (k := k) lx lm0
      have OE := fun lt u t s n k => off_more (a := x) (m := m) (u := u) (t := t) (s := s) (n := n) (k := k) lt lm0
      have CT0 : Hid (∀ (W : World) (v1 v2 : Value) (n k : Nat), n < 65536 ∧ 0 < n ∧ k ≤ 1000000 ∧ n * m * 65536 ^ k ≤ x → NumV W 65536 m v2 → NumV W 65536 x v1 → Calls Tryz.prog 106 #[v1, v2, .int .i64 (n : Int), .int .i64 (k : Int)] W fun e w' => (∃ v, e = .returned v ∧ NumV w' 65536 (x - n * m * 65536 ^ k) v) ∧ Below W.heap.size W w') := fun W v1 v2 n k hq h2 h1 => takeV h1 h2 l9 b2 hq.2.2.1 hq.2.1 hq.1 hq.2.2.2
      obtain ⟨cA, hcA⟩ : ∃ cA : Nat, cA = (dg 65536 x).length - 1 := ⟨_, rfl⟩
      obtain ⟨cM, hcM⟩ : ∃ cM : Nat, cM = (dg 65536 m).length - 1 := ⟨_, rfl⟩
      have rA : Row U1 p3 (dg 65536 x) := by
        obtain ⟨q, c, e, _, r⟩ := N1.out
        simp only [Value.slice.injEq] at e
        rw [e.1]; exact r
      have rM : Row U1 p2 (dg 65536 m) := by
        obtain ⟨q, c, e, _, r⟩ := M2
        simp only [Value.slice.injEq] at e
        rw [e.1]; exact r
      obtain ⟨gA, oA, rfl, dA⟩ := NumV.cellAt rA (i := cA) (by omega)
      obtain ⟨gM, oM, rfl, dM⟩ := NumV.cellAt rM (i := cM) (by omega)
      have dA2 : 1 < (dg 65536 x).length → U1.cell? ⟨gA, oA + ((dg 65536 x).length - 2), none⟩ = some (I ((dg 65536 x).getD ((dg 65536 x).length - 2) 0)) := fun h => by
        obtain ⟨g, o, e, c⟩ := NumV.cellAt rA (i := (dg 65536 x).length - 2) (by omega)
        simp only [Option.some.injEq, Addr.mk.injEq, and_true] at e
        obtain ⟨rfl, rfl⟩ := e
        exact c
      have t9 : (dg 65536 x).getD cA 0 < 65536 := getD_lt (dg_mem b16 x) _
      have s9 : (dg 65536 x).getD ((dg 65536 x).length - 2) 0 < 65536 := getD_lt (dg_mem b16 x) _
      have u9 : (dg 65536 m).getD cM 0 < 65536 := getD_lt (dg_mem b16 m) _
      have e1 := OM _ _ _ ((dg 65536 x).length - (dg 65536 m).length) rfl rfl rfl (by omega)
      have e2 := fun lt h0 => OE lt _ _ _ _ ((dg 65536 x).length - (dg 65536 m).length - 1) rfl rfl rfl h0 rfl (by omega)
      rw [← hcA, ← hcM] at e1 e2
      clear rA rM OM OE
      obtain ⟨s, hs⟩ : ∃ s, s = (dg 65536 x).getD ((dg 65536 x).length - 2) 0 := ⟨_, rfl⟩
      rw [← hs] at dA2 e2 s9
      clear hs
      generalize (dg 65536 x).getD cA 0 = t at *
      generalize (dg 65536 m).getD cM 0 = u at *
      obtain ⟨La, hLa⟩ : ∃ La, La = (dg 65536 x).length := ⟨_, rfl⟩
      have hLm := HLm.out
      have E1 : Hid (t / (u + 1) * m * 65536 ^ (La - Lm) ≤ x) := by show _ ≤ _; rw [hLa, hLm]; exact e1.1
      have E2 : Hid (Lm < La → t / (u + 1) = 0 → (t * 65536 + s) / (u + 1) * m * 65536 ^ (La - Lm - 1) ≤ x ∧ (t * 65536 + s) / (u + 1) < 65536 ∧ 0 < (t * 65536 + s) / (u + 1)) := by show _ → _; rw [hLa, hLm]; exact e2
      have DA2 : Hid (1 < La → U1.cell? ⟨gA, oA + (La - 2), none⟩ = some (I s)) := by show _ → _; rw [hLa]; exact dA2
      clear e1 e2 dA2
      rw [← hLa, ← hLm] at lx
      rw [← hLa] at l9 hcA ⊢
      rw [← hLm] at hcM lm0 b2
      rw [← hLa] at V2
      clear hLa hLm N1
      have kcA : (La : Int) - 1 = (cA : Int) := by omega
      have kcM : (Lm : Int) - 1 = (cM : Int) := by omega
      have cA9 : (cA : Int) < (La : Int) := by omega
      have cM9 : (cM : Int) < (Lm : Int) := by omega
      obtain ⟨u1, hu1⟩ : ∃ u1, u1 = u + 1 := ⟨_, rfl⟩
      have ku1 : (u : Int) + 1 = (u1 : Int) := by omega
      rw [← hu1] at E1 E2
      have u1a : 0 < u1 := by omega
      have u1b : u1 ≤ 65536 := by omega
      have u1c : (u1 : Int) ≠ 0 := by omega
      obtain ⟨n1, hn1⟩ : ∃ n1, n1 = t / u1 := ⟨_, rfl⟩
      rw [← hn1] at E1 E2
      have kn1 : (t : Int) / (u1 : Int) = (n1 : Int) := by rw [hn1]; exact (Int.natCast_ediv t u1).symm
      have kn2 : (t : Int).tdiv (u1 : Int) = (n1 : Int) := by rw [Int.tdiv_eq_ediv_of_nonneg (by omega)]; exact kn1
      have n19 : n1 < 65536 := by rw [hn1]; exact Nat.lt_of_le_of_lt (Nat.div_le_self _ _) t9
      obtain ⟨k0, hk0⟩ : ∃ k0, k0 = La - Lm := ⟨_, rfl⟩
      rw [← hk0] at E1 E2
      have kk0 : (La : Int) - (Lm : Int) = (k0 : Int) := by omega
      have k09 : k0 ≤ 1000000 := by omega
      have HLL : Hid (0 < k0 → Lm < La ∧ 1 < La) := by show _ → _; intro _; omega
      clear hn1 hu1 hcA hcM hk0
      have wq1 : (n1 : Int) ≤ 65535 := by omega
      have hD : Hid (Below w.heap.size w U1) := B1.out
      by_cases hz : n1 = 0
      · by_cases hk : 0 < k0
        · have hk' : (0 : Int) < (k0 : Int) := by omega
          obtain ⟨hLL, hL1⟩ := HLL.out hk
          obtain ⟨f1, f2, f3⟩ := E2.out hLL hz
          have DB := DA2.out hL1
          obtain ⟨cB, hcB⟩ : ∃ cB : Nat, cB = La - 2 := ⟨_, rfl⟩
          rw [← hcB] at DB
          have kcB : (La : Int) - 2 = (cB : Int) := by omega
          have cB9 : (cB : Int) < (La : Int) := by omega
          obtain ⟨ts, hts⟩ : ∃ ts, ts = t * 65536 := ⟨_, rfl⟩
          have kts : (t : Int) * 65536 = (ts : Int) := by omega
          obtain ⟨tss, htss⟩ : ∃ tss, tss = ts + s := ⟨_, rfl⟩
          have ktss : (ts : Int) + (s : Int) = (tss : Int) := by omega
          rw [← hts, ← htss] at f1 f2 f3
          obtain ⟨n2, hn2⟩ : ∃ n2, n2 = tss / u1 := ⟨_, rfl⟩
          rw [← hn2] at f1 f2 f3
          have kn3 : (tss : Int) / (u1 : Int) = (n2 : Int) := by rw [hn2]; exact (Int.natCast_ediv tss u1).symm
          have kn4 : (tss : Int).tdiv (u1 : Int) = (n2 : Int) := by rw [Int.tdiv_eq_ediv_of_nonneg (by omega)]; exact kn3
          obtain ⟨k1, hk1⟩ : ∃ k1, k1 = k0 - 1 := ⟨_, rfl⟩
          rw [← hk1] at f1
          have kk1 : (k0 : Int) - 1 = (k1 : Int) := by omega
          have k19 : k1 ≤ 1000000 := by omega
          have ts9 : ts ≤ 4294901760 := by omega
          have tss9 : tss ≤ 4294967295 := by omega
          have N0 : 0 < n2 := f3
          have FT : Hid (n2 * m * 65536 ^ k1 ≤ x) := f1
          have nz : ¬ (n2 : Int) = 0 := by omega
          have nz2 : ((n2 : Int) == 0) = false := by simpa using nz
          clear hcB hts htss hn2 hk1 E1 E2 DA2 CC
          subst hz
          go_wp2_with fail
          go_quiet (fail)
          have dA' : (U1.drewN nq).cell? ⟨gA, oA + cA, none⟩ = some (I t) := dA
          have dM' : (U1.drewN nq).cell? ⟨gM, oM + cM, none⟩ = some (I u) := dM
          have DB' : (U1.drewN nq).cell? ⟨gA, oA + cB, none⟩ = some (I s) := DB
          have M2' : NumV (U1.drewN nq) 65536 m _ := M2
          have V2' : NumV (U1.drewN nq) 65536 x _ := V2
          have hD' : Hid (Below w.heap.size w (U1.drewN nq)) := ⟨hD.out.os, hD.out.tape, hD.out.output, hD.out.size, hD.out.block⟩
          clear dA dM DB M2 V2 hD B1
          generalize U1.drewN nq = U1 at *
          go_wp2_with fail
          go_quiet (fail)
          have B1 : Hid (Below w.heap.size w (U1.drewN nq)) := ⟨hD'.out.os, hD'.out.tape, hD'.out.output, hD'.out.size, hD'.out.block⟩
          have CT : Hid (∀ (v1 v2 : Value) (n k : Nat), n < 65536 ∧ 0 < n ∧ k ≤ 1000000 ∧ n * m * 65536 ^ k ≤ x → NumV (U1.drewN nq) 65536 m v2 → NumV (U1.drewN nq) 65536 x v1 → Calls Tryz.prog 106 #[v1, v2, .int .i64 (n : Int), .int .i64 (k : Int)] (U1.drewN nq) fun e w' => (∃ v, e = .returned v ∧ NumV w' 65536 (x - n * m * 65536 ^ k) v) ∧ Below (U1.drewN nq).heap.size (U1.drewN nq) w') := CT0.out _
          have M2 : NumV (U1.drewN nq) 65536 m _ := M2'
          have V2 : NumV (U1.drewN nq) 65536 x _ := V2'
          clear hD' CT0
          go_wp2_with fail
          refine (CT.out _ _ n2 k1 ⟨f2, N0, k19, FT.out⟩ M2 V2).mono ?_
          rintro e U2 ⟨⟨u, rfl, hv⟩, hb⟩
          obtain ⟨x', hx'⟩ : ∃ x', x' = x - n2 * m * 65536 ^ k1 := ⟨_, rfl⟩
          rw [← hx'] at hv
          obtain ⟨ol, om⟩ := off_less m0 N0 FT.out
          rw [← hx'] at ol om
          have N2 : Hid (NumV U2 65536 x' u) := hv
          have B2 : Hid (Below w.heap.size w U2) := aB B1 hb
          clear hv hb hx' M2 V2 FT
          go_wp2_with fail
          go_roundg x'
          case measure => omega
          case rel => exact ⟨x', _, rfl, rfl, N2.out, by rw [om]; exact HX.out, by omega, B2.out⟩
        · obtain rfl : k0 = 0 := by omega
          have N0 : 0 < 1 := by omega
          have FT : Hid (1 * m * 65536 ^ 0 ≤ x) := by show _ ≤ _; simpa using hge
          clear E1 E2 DA2 CC
          subst hz
          go_wp2_with fail
          go_quiet (fail)
          have B1 : Hid (Below w.heap.size w (U1.drewN nq)) := ⟨hD.out.os, hD.out.tape, hD.out.output, hD.out.size, hD.out.block⟩
          have CT : Hid (∀ (v1 v2 : Value) (n k : Nat), n < 65536 ∧ 0 < n ∧ k ≤ 1000000 ∧ n * m * 65536 ^ k ≤ x → NumV (U1.drewN nq) 65536 m v2 → NumV (U1.drewN nq) 65536 x v1 → Calls Tryz.prog 106 #[v1, v2, .int .i64 (n : Int), .int .i64 (k : Int)] (U1.drewN nq) fun e w' => (∃ v, e = .returned v ∧ NumV w' 65536 (x - n * m * 65536 ^ k) v) ∧ Below (U1.drewN nq).heap.size (U1.drewN nq) w') := CT0.out _
          have M2 : NumV (U1.drewN nq) 65536 m _ := M2
          have V2 : NumV (U1.drewN nq) 65536 x _ := V2
          clear hD CT0
          go_wp2_with fail
          refine (CT.out _ _ 1 0 ⟨by omega, N0, by omega, FT.out⟩ M2 V2).mono ?_
          rintro e U2 ⟨⟨u, rfl, hv⟩, hb⟩
          obtain ⟨x', hx'⟩ : ∃ x', x' = x - 1 * m * 65536 ^ 0 := ⟨_, rfl⟩
          rw [← hx'] at hv
          obtain ⟨ol, om⟩ := off_less m0 N0 FT.out
          rw [← hx'] at ol om
          have N2 : Hid (NumV U2 65536 x' u) := hv
          have B2 : Hid (Below w.heap.size w U2) := aB B1 hb
          clear hv hb hx' M2 V2 FT
          go_wp2_with fail
          go_roundg x'
          case measure => omega
          case rel => exact ⟨x', _, rfl, rfl, N2.out, by rw [om]; exact HX.out, by omega, B2.out⟩
      · have nz : ¬ (n1 : Int) = 0 := by omega
        have nz2 : ((n1 : Int) == 0) = false := by simpa using nz
        have N0 : 0 < n1 := by omega
        have FT : Hid (n1 * m * 65536 ^ k0 ≤ x) := E1.out
        clear E1 E2 DA2 CC
        go_wp2_with fail
        go_quiet (fail)
        have B1 : Hid (Below w.heap.size w (U1.drewN nq)) := ⟨hD.out.os, hD.out.tape, hD.out.output, hD.out.size, hD.out.block⟩
        have CT : Hid (∀ (v1 v2 : Value) (n k : Nat), n < 65536 ∧ 0 < n ∧ k ≤ 1000000 ∧ n * m * 65536 ^ k ≤ x → NumV (U1.drewN nq) 65536 m v2 → NumV (U1.drewN nq) 65536 x v1 → Calls Tryz.prog 106 #[v1, v2, .int .i64 (n : Int), .int .i64 (k : Int)] (U1.drewN nq) fun e w' => (∃ v, e = .returned v ∧ NumV w' 65536 (x - n * m * 65536 ^ k) v) ∧ Below (U1.drewN nq).heap.size (U1.drewN nq) w') := CT0.out _
        have M2 : NumV (U1.drewN nq) 65536 m _ := M2
        have V2 : NumV (U1.drewN nq) 65536 x _ := V2
        clear hD CT0
        go_wp2_with fail
        refine (CT.out _ _ n1 k0 ⟨n19, N0, k09, FT.out⟩ M2 V2).mono ?_
        rintro e U2 ⟨⟨u, rfl, hv⟩, hb⟩
        obtain ⟨x', hx'⟩ : ∃ x', x' = x - n1 * m * 65536 ^ k0 := ⟨_, rfl⟩
        rw [← hx'] at hv
        obtain ⟨ol, om⟩ := off_less m0 N0 FT.out
        rw [← hx'] at ol om
        have N2 : Hid (NumV U2 65536 x' u) := hv
        have B2 : Hid (Below w.heap.size w U2) := aB B1 hb
        clear hv hb hx' M2 V2 FT
        go_wp2_with fail
        go_roundg x'
        case measure => omega
        case rel => exact ⟨x', _, rfl, rfl, N2.out, by rw [om]; exact HX.out, by omega, B2.out⟩
    · have hc : cmp3 (x : Int) (m : Int) = -1 := cmp3_lt (by omega)
      rw [hc]
      have HE : Hid (x = a % m) := by show _ = _; rw [← HX.out, Nat.mod_eq_of_lt (by omega)]
      have N2 : Hid (NumV U1 65536 (a % m) (.slice p3 (dg 65536 x).length cp3)) := by
        have := N1.out
        have e := HE.out
        rw [← e]; exact this
      generalize (dg 65536 x).length = Lx at *
      clear N1 HE M2 HX
      go_wp2_with fail
      go_ret
      exact ⟨⟨_, rfl, N2.out⟩, B1.out⟩
end Go.Proofs.YtfbceknafmkipaaGreat

/- The reference: is it a scalar, is it an element; differences and numbers modulo the order. -/
set_option linter.unusedSimpArgs false
set_option linter.unusedVariables false
namespace Go.Proofs.YtfbceknafmkipaaGreat
open Go.RowKit Go.Deep Go.PlainAid

theorem tkU {P : Program} {md : Region.Mode} {ops : Array Oper} {Q : Exit → Act → World → Prop} {S : World → Prop} {i : Nat} {oi : Oper} {fuel : Nat} {listed : Array Bool} {a : Act} {w : World} (hi : ops[i]? = some oi)
    (hs : (Region.noSelect ops && (Region.free md ops listed i && (Region.ready md ops listed).contains i)) = true)
    (hQ : ∀ c a w, Q (.panic c) (a.put oi.dst undef) w → Q (.panic c) a w) (hw : Region.wanted oi (yielded ops a.tmps) = false) (hS : S w)
    (h : wpAnyH P md ops Q S fuel (listed.setIfInBounds i true) (a.put oi.dst undef) w) : wpAnyH P md ops Q S (fuel + 1) listed a w := by
  simp only [Bool.and_eq_true] at hs
  exact wpAnyH_take hi hs.1 hs.2.1 hs.2.2 hQ (Or.inr ⟨hw, rfl⟩) hS h
theorem NumV.len {W : World} {n L c : Nat} {a : Option Addr} (h : Hid (NumV W 65536 n (.slice a L c))) : L = (dg 65536 n).length := by
  obtain ⟨a', c', e, _⟩ := h.out
  simp only [Value.slice.injEq] at e
  exact e.2.1
set_option maxRecDepth 100000 in
set_option maxHeartbeats 2000000 in
theorem isScalar_no {w : World} {q : Nat} {qa : Option Addr} {ql qc : Nat} (NQ : Hid (NumV w 65536 q (.slice qa ql qc))) {pa : Option Addr} {pl pc : Nat} {S : Nat} {s : ByteArray} (hne : ((s.size : Int) == (S : Int)) = false) :
    Calls Tryz.prog 26 #[.agg #[.int .i64 (S : Int), .slice qa ql qc, .slice pa pl pc], .string s] w fun e w' => e = .returned (.bool false) ∧ Below w.heap.size w w' := by
  have hne2 : ¬ (s.size : Int) = (S : Int) := by simpa using hne
  go_enter Tryz.func26, Tryz.ntmps26
  go_wp2_with fail
  obtain ⟨U1, hU1⟩ : ∃ X, X = (w.alloc (.cells #[(.int .i64 (S : Int)), (.slice qa ql qc), (.slice pa pl pc)] 48)) := ⟨_, rfl⟩
  have Jg : Hid (IHolds U1 (w.heap.size) 48 [(.int .i64 (S : Int)), (.slice qa ql qc), (.slice pa pl pc)]) := by
    have q := IHolds.new w 48 [(.int .i64 (S : Int)), (.slice qa ql qc), (.slice pa pl pc)]
    show IHolds _ _ _ _
    rw [hU1]
    exact q
  have B : Hid (Below w.heap.size w U1) := by
    show Below _ _ _
    rw [hU1]
    exact ((Below.refl _ w).alloc (Nat.le_refl _) _)
  rw [← hU1]
  have hb : Below w.heap.size w U1 := B.out
  replace NQ := aN NQ hb
  clear hb
  clear hU1
  have hb := dB U1
  replace B := aB B hb
  replace Jg := aJ Jg hb
  replace NQ := aN NQ hb
  clear hb
  refine wp_region_held_drew (S := fun W => (IHolds W (w.heap.size) 48 [(.int .i64 (S : Int)), (.slice qa ql qc), (.slice pa pl pc)])) (by kernel_rfl) Jg.out (fun hHeld1 => ?_)
  generalize U1.drew = U2 at *
  refine tk (i := 0) (v := (.string s)) rfl (by kernel_rfl) (fun _ _ _ h => h) rfl ?_ hHeld1 ?_
  · intro W hS; go_simp
  simp only [Act.put, y1, y2, y3, y4, y5, y6, y7]
  refine tk (i := 2) (v := .pointer (some ⟨w.heap.size, 0, none⟩)) rfl (by kernel_rfl) (fun _ _ _ h => h) rfl ?_ hHeld1 ?_
  · intro W hS; go_simp
  simp only [Act.put, y1, y2, y3, y4, y5, y6, y7]
  refine tk (i := 1) (v := (.int .i64 (s.size : Int))) rfl (by kernel_rfl) (fun _ _ _ h => h) rfl ?_ hHeld1 ?_
  · intro W hS; go_simp
  simp only [Act.put, y1, y2, y3, y4, y5, y6, y7]
  refine tk (i := 3) (v := (.int .i64 (S : Int))) rfl (by kernel_rfl) (fun _ _ _ h => h) rfl ?_ hHeld1 ?_
  · intro W hS; have zg_0 : W.cell? ⟨w.heap.size, 0, none⟩ = some ((.int .i64 (S : Int))) := IHolds.cell (l := [(.int .i64 (S : Int)), (.slice qa ql qc), (.slice pa pl pc)]) (t := 48) (b := w.heap.size) (w := W) (hS) 0 (by simp); have zg_1 : W.cell? ⟨w.heap.size, 1, none⟩ = some ((.slice qa ql qc)) := IHolds.cell (l := [(.int .i64 (S : Int)), (.slice qa ql qc), (.slice pa pl pc)]) (t := 48) (b := w.heap.size) (w := W) (hS) 1 (by simp); have zg_2 : W.cell? ⟨w.heap.size, 2, none⟩ = some ((.slice pa pl pc)) := IHolds.cell (l := [(.int .i64 (S : Int)), (.slice qa ql qc), (.slice pa pl pc)]) (t := 48) (b := w.heap.size) (w := W) (hS) 2 (by simp); go_simp
  simp only [Act.put, y1, y2, y3, y4, y5, y6, y7]
  refine tk (i := 4) (v := (.bool false)) rfl (by kernel_rfl) (fun _ _ _ h => h) rfl ?_ hHeld1 ?_
  · intro W hS; go_simp
  simp only [Act.put, y1, y2, y3, y4, y5, y6, y7]
  refine tk (i := 5) (v := (.bool false)) rfl (by kernel_rfl) (fun _ _ _ h => h) rfl ?_ hHeld1 ?_
  · intro W hS; go_simp
  simp only [Act.put, y1, y2, y3, y4, y5, y6, y7]
  refine tkU (i := 6) rfl (by kernel_rfl) (fun _ _ _ h => h) rfl hHeld1 ?_
  simp only [Act.put, y1, y2, y3, y4, y5, y6, y7]
  refine tkU (i := 8) rfl (by kernel_rfl) (fun _ _ _ h => h) rfl hHeld1 ?_
  simp only [Act.put, y1, y2, y3, y4, y5, y6, y7]
  refine tkU (i := 7) rfl (by kernel_rfl) (fun _ _ _ h => h) rfl hHeld1 ?_
  simp only [Act.put, y1, y2, y3, y4, y5, y6, y7]
  refine tkU (i := 9) rfl (by kernel_rfl) (fun _ _ _ h => h) rfl hHeld1 ?_
  simp only [Act.put, y1, y2, y3, y4, y5, y6, y7]
  refine tkU (i := 10) rfl (by kernel_rfl) (fun _ _ _ h => h) rfl hHeld1 ?_
  simp only [Act.put, y1, y2, y3, y4, y5, y6, y7]
  refine tkU (i := 11) rfl (by kernel_rfl) (fun _ _ _ h => h) rfl hHeld1 ?_
  simp only [Act.put, y1, y2, y3, y4, y5, y6, y7]
  refine tk (i := 12) (v := (.bool false)) rfl (by kernel_rfl) (fun _ _ _ h => h) rfl ?_ hHeld1 ?_
  · intro W hS; go_simp
  simp only [Act.put, y1, y2, y3, y4, y5, y6, y7]
  refine tk (i := 13) (v := (.bool false)) rfl (by kernel_rfl) (fun _ _ _ h => h) rfl ?_ hHeld1 ?_
  · intro W hS; go_simp
  simp only [Act.put, y1, y2, y3, y4, y5, y6, y7]
  refine wpAnyH_done (by kernel_rfl) ?_ _
  clear hHeld1
  go_wp2_with fail
  go_ret
  exact ⟨rfl, B.out⟩
set_option maxRecDepth 100000 in
set_option maxHeartbeats 2000000 in
theorem isScalar_is {w : World} {q : Nat} {qa : Option Addr} {ql qc : Nat} (NQ : Hid (NumV w 65536 q (.slice qa ql qc))) {pa : Option Addr} {pl pc : Nat} {s : ByteArray} {N : Nat} {c : Int} {t : Bool} (CR : Hid (∀ W, Calls Tryz.prog 40 #[.string s] W fun e w' => (∃ v, e = .returned v ∧ NumV w' 65536 N v) ∧ Below W.heap.size W w')) (CC : Hid (∀ W v v', NumV W 65536 N v → NumV W 65536 q v' → Calls Tryz.prog 54 #[v, v'] W fun e w' => e = .returned (.int .i64 c) ∧ Below W.heap.size W w')) (hc : decide (c < 0) = t) :
    Calls Tryz.prog 26 #[.agg #[.int .i64 (s.size : Int), .slice qa ql qc, .slice pa pl pc], .string s] w fun e w' => e = .returned (.bool t) ∧ Below w.heap.size w w' := by
  go_enter Tryz.func26, Tryz.ntmps26
  go_wp2_with fail
  obtain ⟨U1, hU1⟩ : ∃ X, X = (w.alloc (.cells #[(.int .i64 (s.size : Int)), (.slice qa ql qc), (.slice pa pl pc)] 48)) := ⟨_, rfl⟩
  have Jg : Hid (IHolds U1 (w.heap.size) 48 [(.int .i64 (s.size : Int)), (.slice qa ql qc), (.slice pa pl pc)]) := by
    have q := IHolds.new w 48 [(.int .i64 (s.size : Int)), (.slice qa ql qc), (.slice pa pl pc)]
    show IHolds _ _ _ _
    rw [hU1]
    exact q
  have B : Hid (Below w.heap.size w U1) := by
    show Below _ _ _
    rw [hU1]
    exact ((Below.refl _ w).alloc (Nat.le_refl _) _)
  rw [← hU1]
  have hb : Below w.heap.size w U1 := B.out
  replace NQ := aN NQ hb
  clear hb
  clear hU1
  have hb := dB U1
  replace B := aB B hb
  replace Jg := aJ Jg hb
  replace NQ := aN NQ hb
  clear hb
  refine wp_region_held_drew (S := fun W => (IHolds W (w.heap.size) 48 [(.int .i64 (s.size : Int)), (.slice qa ql qc), (.slice pa pl pc)])) (by kernel_rfl) Jg.out (fun hHeld1 => ?_)
  generalize U1.drew = U2 at *
  refine tk (i := 0) (v := (.string s)) rfl (by kernel_rfl) (fun _ _ _ h => h) rfl ?_ hHeld1 ?_
  · intro W hS; go_simp
  simp only [Act.put, y1, y2, y3, y4, y5, y6, y7]
  refine tk (i := 2) (v := .pointer (some ⟨w.heap.size, 0, none⟩)) rfl (by kernel_rfl) (fun _ _ _ h => h) rfl ?_ hHeld1 ?_
  · intro W hS; go_simp
  simp only [Act.put, y1, y2, y3, y4, y5, y6, y7]
  refine tk (i := 1) (v := (.int .i64 (s.size : Int))) rfl (by kernel_rfl) (fun _ _ _ h => h) rfl ?_ hHeld1 ?_
  · intro W hS; go_simp
  simp only [Act.put, y1, y2, y3, y4, y5, y6, y7]
  refine tk (i := 3) (v := (.int .i64 (s.size : Int))) rfl (by kernel_rfl) (fun _ _ _ h => h) rfl ?_ hHeld1 ?_
  · intro W hS; have zg_0 : W.cell? ⟨w.heap.size, 0, none⟩ = some ((.int .i64 (s.size : Int))) := IHolds.cell (l := [(.int .i64 (s.size : Int)), (.slice qa ql qc), (.slice pa pl pc)]) (t := 48) (b := w.heap.size) (w := W) (hS) 0 (by simp); have zg_1 : W.cell? ⟨w.heap.size, 1, none⟩ = some ((.slice qa ql qc)) := IHolds.cell (l := [(.int .i64 (s.size : Int)), (.slice qa ql qc), (.slice pa pl pc)]) (t := 48) (b := w.heap.size) (w := W) (hS) 1 (by simp); have zg_2 : W.cell? ⟨w.heap.size, 2, none⟩ = some ((.slice pa pl pc)) := IHolds.cell (l := [(.int .i64 (s.size : Int)), (.slice qa ql qc), (.slice pa pl pc)]) (t := 48) (b := w.heap.size) (w := W) (hS) 2 (by simp); go_simp
  simp only [Act.put, y1, y2, y3, y4, y5, y6, y7]
  refine tk (i := 4) (v := (.bool true)) rfl (by kernel_rfl) (fun _ _ _ h => h) rfl ?_ hHeld1 ?_
  · intro W hS; go_simp
  simp only [Act.put, y1, y2, y3, y4, y5, y6, y7]
  refine tk (i := 5) (v := (.bool true)) rfl (by kernel_rfl) (fun _ _ _ h => h) rfl ?_ hHeld1 ?_
  · intro W hS; go_simp
  simp only [Act.put, y1, y2, y3, y4, y5, y6, y7]
  refine tk (i := 6) (v := (.string s)) rfl (by kernel_rfl) (fun _ _ _ h => h) rfl ?_ hHeld1 ?_
  · intro W hS; go_simp
  simp only [Act.put, y1, y2, y3, y4, y5, y6, y7]
  refine tk (i := 8) (v := .pointer (some ⟨w.heap.size, 1, none⟩)) rfl (by kernel_rfl) (fun _ _ _ h => h) rfl ?_ hHeld1 ?_
  · intro W hS; go_simp
  simp only [Act.put, y1, y2, y3, y4, y5, y6, y7]
  refine tk (i := 9) (v := (.slice qa ql qc)) rfl (by kernel_rfl) (fun _ _ _ h => h) rfl ?_ hHeld1 ?_
  · intro W hS; have zg_0 : W.cell? ⟨w.heap.size, 0, none⟩ = some ((.int .i64 (s.size : Int))) := IHolds.cell (l := [(.int .i64 (s.size : Int)), (.slice qa ql qc), (.slice pa pl pc)]) (t := 48) (b := w.heap.size) (w := W) (hS) 0 (by simp); have zg_1 : W.cell? ⟨w.heap.size, 1, none⟩ = some ((.slice qa ql qc)) := IHolds.cell (l := [(.int .i64 (s.size : Int)), (.slice qa ql qc), (.slice pa pl pc)]) (t := 48) (b := w.heap.size) (w := W) (hS) 1 (by simp); have zg_2 : W.cell? ⟨w.heap.size, 2, none⟩ = some ((.slice pa pl pc)) := IHolds.cell (l := [(.int .i64 (s.size : Int)), (.slice qa ql qc), (.slice pa pl pc)]) (t := 48) (b := w.heap.size) (w := W) (hS) 2 (by simp); go_simp
  simp only [Act.put, y1, y2, y3, y4, y5, y6, y7]
  refine wpAnyH_ready (rs := [7]) (by kernel_rfl) (by simp) ?_
  refine AllReadyH.cons rfl (fun K hK => ?_) AllReadyH.nil
  clear hHeld1
  go_simp
  refine (CR.out U2).mono ?_
  rintro e U3 ⟨⟨yr, rfl, hv⟩, hb⟩
  have Nyr : Hid (NumV U3 65536 (N) yr) := hv
  clear hv
  replace B := aB B hb
  replace Jg := aJ Jg hb
  replace NQ := aN NQ hb
  clear hb
  go_wp2_with fail
  refine hK.out _ _ (Jg.out) (fun hHeld2 => ?_)
  clear hK K
  try simp only [Act.put, y1, y2, y3, y4, y5, y6, y7]
  refine wpAnyH_ready (rs := [10]) (by kernel_rfl) (by simp) ?_
  refine AllReadyH.cons rfl (fun K hK => ?_) AllReadyH.nil
  clear hHeld2
  go_simp
  refine (CC.out U3 yr (.slice qa ql qc) Nyr.out NQ.out).mono ?_
  rintro e U4 ⟨rfl, hb⟩
  replace B := aB B hb
  replace Jg := aJ Jg hb
  replace NQ := aN NQ hb
  replace Nyr := aN Nyr hb
  clear hb
  go_wp2_with fail
  refine hK.out _ _ (Jg.out) (fun hHeld3 => ?_)
  clear hK K
  try simp only [Act.put, y1, y2, y3, y4, y5, y6, y7]
  refine tk (i := 11) (v := (.bool t)) rfl (by kernel_rfl) (fun _ _ _ h => h) rfl ?_ hHeld3 ?_
  · intro W hS; go_simp
  simp only [Act.put, y1, y2, y3, y4, y5, y6, y7]
  refine tk (i := 12) (v := (.bool t)) rfl (by kernel_rfl) (fun _ _ _ h => h) rfl ?_ hHeld3 ?_
  · intro W hS; go_simp
  simp only [Act.put, y1, y2, y3, y4, y5, y6, y7]
  refine tk (i := 13) (v := (.bool t)) rfl (by kernel_rfl) (fun _ _ _ h => h) rfl ?_ hHeld3 ?_
  · intro W hS; go_simp
  simp only [Act.put, y1, y2, y3, y4, y5, y6, y7]
  refine wpAnyH_done (by kernel_rfl) ?_ _
  clear hHeld3
  go_wp2_with fail
  go_ret
  exact ⟨rfl, B.out⟩
set_option maxRecDepth 100000 in
set_option maxHeartbeats 2000000 in
theorem sub_words {w : World} {q : Nat} {qa : Option Addr} {ql qc : Nat} (NQ : Hid (NumV w 65536 q (.slice qa ql qc))) {pa : Option Addr} {pl pc : Nat} {S : Nat} {a b a1 a2 r : Nat} {va vb : Value} (NA : Hid (NumV w 65536 a va)) (NB' : Hid (NumV w 65536 b vb))
    (C1 : Hid (∀ W v v', NumV W 65536 a v → NumV W 65536 q v' → Calls Tryz.prog 34 #[v, v'] W fun e w' => (∃ v, e = .returned v ∧ NumV w' 65536 a1 v) ∧ Below W.heap.size W w'))
    (C2 : Hid (∀ W v v', NumV W 65536 a1 v → NumV W 65536 b v' → Calls Tryz.prog 79 #[v, v'] W fun e w' => (∃ v, e = .returned v ∧ NumV w' 65536 a2 v) ∧ Below W.heap.size W w'))
    (C3 : Hid (∀ W v v', NumV W 65536 a2 v → NumV W 65536 q v' → Calls Tryz.prog 78 #[v, v'] W fun e w' => (∃ v, e = .returned v ∧ NumV w' 65536 r v) ∧ Below W.heap.size W w')) :
    Calls Tryz.prog 55 #[.agg #[.int .i64 (S : Int), .slice qa ql qc, .slice pa pl pc], va, vb] w fun e w' => (∃ v, e = .returned v ∧ NumV w' 65536 r v) ∧ Below w.heap.size w w' := by
  go_enter Tryz.func55, Tryz.ntmps55
  go_wp2_with fail
  obtain ⟨U1, hU1⟩ : ∃ X, X = (w.alloc (.cells #[(.int .i64 (S : Int)), (.slice qa ql qc), (.slice pa pl pc)] 48)) := ⟨_, rfl⟩
  have Jg : Hid (IHolds U1 (w.heap.size) 48 [(.int .i64 (S : Int)), (.slice qa ql qc), (.slice pa pl pc)]) := by
    have q := IHolds.new w 48 [(.int .i64 (S : Int)), (.slice qa ql qc), (.slice pa pl pc)]
    show IHolds _ _ _ _
    rw [hU1]
    exact q
  have B : Hid (Below w.heap.size w U1) := by
    show Below _ _ _
    rw [hU1]
    exact ((Below.refl _ w).alloc (Nat.le_refl _) _)
  rw [← hU1]
  have hb : Below w.heap.size w U1 := B.out
  replace NQ := aN NQ hb
  replace NA := aN NA hb
  replace NB' := aN NB' hb
  clear hb
  clear hU1
  have hb := dB U1
  replace B := aB B hb
  replace Jg := aJ Jg hb
  replace NQ := aN NQ hb
  replace NA := aN NA hb
  replace NB' := aN NB' hb
  clear hb
  refine wp_region_held_drew (S := fun W => (IHolds W (w.heap.size) 48 [(.int .i64 (S : Int)), (.slice qa ql qc), (.slice pa pl pc)])) (by kernel_rfl) Jg.out (fun hHeld1 => ?_)
  generalize U1.drew = U2 at *
  refine tk (i := 0) (v := va) rfl (by kernel_rfl) (fun _ _ _ h => h) rfl ?_ hHeld1 ?_
  · intro W hS; go_simp
  simp only [Act.put, y1, y2, y3, y4, y5, y6, y7]
  refine tk (i := 1) (v := .pointer (some ⟨w.heap.size, 1, none⟩)) rfl (by kernel_rfl) (fun _ _ _ h => h) rfl ?_ hHeld1 ?_
  · intro W hS; go_simp
  simp only [Act.put, y1, y2, y3, y4, y5, y6, y7]
  refine tk (i := 4) (v := vb) rfl (by kernel_rfl) (fun _ _ _ h => h) rfl ?_ hHeld1 ?_
  · intro W hS; go_simp
  simp only [Act.put, y1, y2, y3, y4, y5, y6, y7]
  refine tk (i := 6) (v := .pointer (some ⟨w.heap.size, 1, none⟩)) rfl (by kernel_rfl) (fun _ _ _ h => h) rfl ?_ hHeld1 ?_
  · intro W hS; go_simp
  simp only [Act.put, y1, y2, y3, y4, y5, y6, y7]
  refine tk (i := 2) (v := (.slice qa ql qc)) rfl (by kernel_rfl) (fun _ _ _ h => h) rfl ?_ hHeld1 ?_
  · intro W hS; have zg_0 : W.cell? ⟨w.heap.size, 0, none⟩ = some ((.int .i64 (S : Int))) := IHolds.cell (l := [(.int .i64 (S : Int)), (.slice qa ql qc), (.slice pa pl pc)]) (t := 48) (b := w.heap.size) (w := W) (hS) 0 (by simp); have zg_1 : W.cell? ⟨w.heap.size, 1, none⟩ = some ((.slice qa ql qc)) := IHolds.cell (l := [(.int .i64 (S : Int)), (.slice qa ql qc), (.slice pa pl pc)]) (t := 48) (b := w.heap.size) (w := W) (hS) 1 (by simp); have zg_2 : W.cell? ⟨w.heap.size, 2, none⟩ = some ((.slice pa pl pc)) := IHolds.cell (l := [(.int .i64 (S : Int)), (.slice qa ql qc), (.slice pa pl pc)]) (t := 48) (b := w.heap.size) (w := W) (hS) 2 (by simp); go_simp
  simp only [Act.put, y1, y2, y3, y4, y5, y6, y7]
  refine tk (i := 7) (v := (.slice qa ql qc)) rfl (by kernel_rfl) (fun _ _ _ h => h) rfl ?_ hHeld1 ?_
  · intro W hS; have zg_0 : W.cell? ⟨w.heap.size, 0, none⟩ = some ((.int .i64 (S : Int))) := IHolds.cell (l := [(.int .i64 (S : Int)), (.slice qa ql qc), (.slice pa pl pc)]) (t := 48) (b := w.heap.size) (w := W) (hS) 0 (by simp); have zg_1 : W.cell? ⟨w.heap.size, 1, none⟩ = some ((.slice qa ql qc)) := IHolds.cell (l := [(.int .i64 (S : Int)), (.slice qa ql qc), (.slice pa pl pc)]) (t := 48) (b := w.heap.size) (w := W) (hS) 1 (by simp); have zg_2 : W.cell? ⟨w.heap.size, 2, none⟩ = some ((.slice pa pl pc)) := IHolds.cell (l := [(.int .i64 (S : Int)), (.slice qa ql qc), (.slice pa pl pc)]) (t := 48) (b := w.heap.size) (w := W) (hS) 2 (by simp); go_simp
  simp only [Act.put, y1, y2, y3, y4, y5, y6, y7]
  refine wpAnyH_ready (rs := [3]) (by kernel_rfl) (by simp) ?_
  refine AllReadyH.cons rfl (fun K hK => ?_) AllReadyH.nil
  clear hHeld1
  go_simp
  refine (C1.out U2 va (.slice qa ql qc) NA.out NQ.out).mono ?_
  rintro e U3 ⟨⟨y1', rfl, hv⟩, hb⟩
  have Ny1' : Hid (NumV U3 65536 (a1) y1') := hv
  clear hv
  replace B := aB B hb
  replace Jg := aJ Jg hb
  replace NQ := aN NQ hb
  replace NA := aN NA hb
  replace NB' := aN NB' hb
  clear hb
  go_wp2_with fail
  refine hK.out _ _ (Jg.out) (fun hHeld2 => ?_)
  clear hK K
  try simp only [Act.put, y1, y2, y3, y4, y5, y6, y7]
  refine wpAnyH_ready (rs := [5]) (by kernel_rfl) (by simp) ?_
  refine AllReadyH.cons rfl (fun K hK => ?_) AllReadyH.nil
  clear hHeld2
  go_simp
  refine (C2.out U3 y1' vb Ny1'.out NB'.out).mono ?_
  rintro e U4 ⟨⟨y2', rfl, hv⟩, hb⟩
  have Ny2' : Hid (NumV U4 65536 (a2) y2') := hv
  clear hv
  replace B := aB B hb
  replace Jg := aJ Jg hb
  replace NQ := aN NQ hb
  replace NA := aN NA hb
  replace NB' := aN NB' hb
  replace Ny1' := aN Ny1' hb
  clear hb
  go_wp2_with fail
  refine hK.out _ _ (Jg.out) (fun hHeld3 => ?_)
  clear hK K
  try simp only [Act.put, y1, y2, y3, y4, y5, y6, y7]
  refine wpAnyH_ready (rs := [8]) (by kernel_rfl) (by simp) ?_
  refine AllReadyH.cons rfl (fun K hK => ?_) AllReadyH.nil
  clear hHeld3
  go_simp
  refine (C3.out U4 y2' (.slice qa ql qc) Ny2'.out NQ.out).mono ?_
  rintro e U5 ⟨⟨y3', rfl, hv⟩, hb⟩
  have Ny3' : Hid (NumV U5 65536 (r) y3') := hv
  clear hv
  replace B := aB B hb
  replace Jg := aJ Jg hb
  replace NQ := aN NQ hb
  replace NA := aN NA hb
  replace NB' := aN NB' hb
  replace Ny1' := aN Ny1' hb
  replace Ny2' := aN Ny2' hb
  clear hb
  go_wp2_with fail
  refine hK.out _ _ (Jg.out) (fun hHeld4 => ?_)
  clear hK K
  try simp only [Act.put, y1, y2, y3, y4, y5, y6, y7]
  refine tk (i := 9) (v := y3') rfl (by kernel_rfl) (fun _ _ _ h => h) rfl ?_ hHeld4 ?_
  · intro W hS; go_simp
  simp only [Act.put, y1, y2, y3, y4, y5, y6, y7]
  refine wpAnyH_done (by kernel_rfl) ?_ _
  clear hHeld4
  go_wp2_with fail
  go_ret
  exact ⟨⟨_, rfl, Ny3'.out⟩, B.out⟩
end Go.Proofs.YtfbceknafmkipaaGreat

