/- How many digits a number has. -/
import Derived.Test.YtohpbclofcflaaaGreatJoin
set_option linter.unusedSimpArgs false
set_option linter.unusedVariables false
namespace Go.Proofs.YtohpbclofcflaaaGreat
open Go.RowKit Go.Deep Go.PlainAid

theorem len_up {x y t s : Nat} (h : y < 2 ^ t) (hy : y = x / 2 ^ s) : x < 2 ^ (s + t) := by
  rw [Nat.pow_add]
  have h1 : x < 2 ^ s * (x / 2 ^ s + 1) := Nat.lt_mul_div_succ x (Nat.pow_pos (by omega))
  have h2 : 2 ^ s * (x / 2 ^ s + 1) ≤ 2 ^ s * 2 ^ t := Nat.mul_le_mul_left _ (by omega)
  omega
set_option maxRecDepth 100000 in
set_option maxHeartbeats 4000000 in
theorem len64_any (x : Nat) (hx : x < 18446744073709551616) (w : World) :
    Calls Tryz.prog 104 #[U x] w fun e w' => (∃ L : Nat, e = .returned (.int .i64 (L : Int)) ∧ x < 2 ^ L ∧ L ≤ 64) ∧ w' = w := by
  go_enter Tryz.func104, Tryz.ntmps104
  generalize hT : ByteArray.mk (List.toArray _) = T
  have hs : T.size = 256 := by rw [← hT]; kernel_rfl
  have hv : Hid (∀ i : Fin 256, i.val < 2 ^ (T.data.toList.getD i.val 0).toNat ∧ (T.data.toList.getD i.val 0).toNat ≤ 8) := by show ∀ _, _; rw [← hT]; decide +kernel
  clear hT
  have hb := get_bt T
  have HB : Hid (∀ y : Nat, y < 256 → ∃ t : Nat, bt T y = (t : Int) ∧ y < 2 ^ t ∧ t ≤ 8) := by
    show ∀ _, _
    intro y hy
    refine ⟨(T.data.toList.getD y 0).toNat, ?_, hv.out ⟨y, hy⟩⟩
    have hl : y < T.data.toList.length := by show y < T.size; omega
    rw [bt_list T y (by omega), List.getD_eq_getElem?_getD, List.getElem?_eq_getElem hl]
    rfl
  clear hv
  by_cases ha : 4294967296 ≤ x
  · by_cases hb1 : 65536 ≤ x / 4294967296
    · by_cases hc : 256 ≤ x / 4294967296 / 65536
      · obtain ⟨p, hp⟩ : ∃ y, y = x / 4294967296 := ⟨_, rfl⟩
        have kp : (x : Int) / 4294967296 = (p : Int) := by omega
        have tp : (4294967296 : Int) ≤ (x : Int) := by omega
        obtain ⟨q, hq⟩ : ∃ y, y = p / 65536 := ⟨_, rfl⟩
        have kq : (p : Int) / 65536 = (q : Int) := by omega
        have tq : (65536 : Int) ≤ (p : Int) := by omega
        obtain ⟨r, hr⟩ : ∃ y, y = q / 256 := ⟨_, rfl⟩
        have kr : (q : Int) / 256 = (r : Int) := by omega
        have tr : (256 : Int) ≤ (q : Int) := by omega
        have y9 : r < 256 := by omega
        obtain ⟨t, kt, t1, t2⟩ := HB.out r y9
        have HE : Hid (x < 2 ^ (56 + t)) := len_up (y := r) t1 (by simp only [Nat.reducePow]; omega)
        have km : (r : Int) % 256 = (r : Int) := by omega
        clear HB hp hq hr
        go_wp2_with fail
        go_ret
        exact ⟨⟨56 + t, by first | done | rfl | go_num, HE.out, by omega⟩, rfl⟩
      · obtain ⟨p, hp⟩ : ∃ y, y = x / 4294967296 := ⟨_, rfl⟩
        have kp : (x : Int) / 4294967296 = (p : Int) := by omega
        have tp : (4294967296 : Int) ≤ (x : Int) := by omega
        obtain ⟨q, hq⟩ : ∃ y, y = p / 65536 := ⟨_, rfl⟩
        have kq : (p : Int) / 65536 = (q : Int) := by omega
        have tq : (65536 : Int) ≤ (p : Int) := by omega
        have tr : ¬ (256 : Int) ≤ (q : Int) := by omega
        have y9 : q < 256 := by omega
        obtain ⟨t, kt, t1, t2⟩ := HB.out q y9
        have HE : Hid (x < 2 ^ (48 + t)) := len_up (y := q) t1 (by simp only [Nat.reducePow]; omega)
        have km : (q : Int) % 256 = (q : Int) := by omega
        clear HB hp hq
        go_wp2_with fail
        go_ret
        exact ⟨⟨48 + t, by first | done | rfl | go_num, HE.out, by omega⟩, rfl⟩
    · by_cases hc : 256 ≤ x / 4294967296
      · obtain ⟨p, hp⟩ : ∃ y, y = x / 4294967296 := ⟨_, rfl⟩
        have kp : (x : Int) / 4294967296 = (p : Int) := by omega
        have tp : (4294967296 : Int) ≤ (x : Int) := by omega
        have tq : ¬ (65536 : Int) ≤ (p : Int) := by omega
        obtain ⟨r, hr⟩ : ∃ y, y = p / 256 := ⟨_, rfl⟩
        have kr : (p : Int) / 256 = (r : Int) := by omega
        have tr : (256 : Int) ≤ (p : Int) := by omega
        have y9 : r < 256 := by omega
        obtain ⟨t, kt, t1, t2⟩ := HB.out r y9
        have HE : Hid (x < 2 ^ (40 + t)) := len_up (y := r) t1 (by simp only [Nat.reducePow]; omega)
        have km : (r : Int) % 256 = (r : Int) := by omega
        clear HB hp hr
        go_wp2_with fail
        go_ret
        exact ⟨⟨40 + t, by first | done | rfl | go_num, HE.out, by omega⟩, rfl⟩
      · obtain ⟨p, hp⟩ : ∃ y, y = x / 4294967296 := ⟨_, rfl⟩
        have kp : (x : Int) / 4294967296 = (p : Int) := by omega
        have tp : (4294967296 : Int) ≤ (x : Int) := by omega
        have tq : ¬ (65536 : Int) ≤ (p : Int) := by omega
        have tr : ¬ (256 : Int) ≤ (p : Int) := by omega
        have y9 : p < 256 := by omega
        obtain ⟨t, kt, t1, t2⟩ := HB.out p y9
        have HE : Hid (x < 2 ^ (32 + t)) := len_up (y := p) t1 (by simp only [Nat.reducePow]; omega)
        have km : (p : Int) % 256 = (p : Int) := by omega
        clear HB hp
        go_wp2_with fail
        go_ret
        exact ⟨⟨32 + t, by first | done | rfl | go_num, HE.out, by omega⟩, rfl⟩
  · by_cases hb1 : 65536 ≤ x
    · by_cases hc : 256 ≤ x / 65536
      · have tp : ¬ (4294967296 : Int) ≤ (x : Int) := by omega
        obtain ⟨q, hq⟩ : ∃ y, y = x / 65536 := ⟨_, rfl⟩
        have kq : (x : Int) / 65536 = (q : Int) := by omega
        have tq : (65536 : Int) ≤ (x : Int) := by omega
        obtain ⟨r, hr⟩ : ∃ y, y = q / 256 := ⟨_, rfl⟩
        have kr : (q : Int) / 256 = (r : Int) := by omega
        have tr : (256 : Int) ≤ (q : Int) := by omega
        have y9 : r < 256 := by omega
        obtain ⟨t, kt, t1, t2⟩ := HB.out r y9
        have HE : Hid (x < 2 ^ (24 + t)) := len_up (y := r) t1 (by simp only [Nat.reducePow]; omega)
        have km : (r : Int) % 256 = (r : Int) := by omega
        clear HB hq hr
        go_wp2_with fail
        go_ret
        exact ⟨⟨24 + t, by first | done | rfl | go_num, HE.out, by omega⟩, rfl⟩
      · have tp : ¬ (4294967296 : Int) ≤ (x : Int) := by omega
        obtain ⟨q, hq⟩ : ∃ y, y = x / 65536 := ⟨_, rfl⟩
        have kq : (x : Int) / 65536 = (q : Int) := by omega
        have tq : (65536 : Int) ≤ (x : Int) := by omega
        have tr : ¬ (256 : Int) ≤ (q : Int) := by omega
        have y9 : q < 256 := by omega
        obtain ⟨t, kt, t1, t2⟩ := HB.out q y9
        have HE : Hid (x < 2 ^ (16 + t)) := len_up (y := q) t1 (by simp only [Nat.reducePow]; omega)
        have km : (q : Int) % 256 = (q : Int) := by omega
        clear HB hq
        go_wp2_with fail
        go_ret
        exact ⟨⟨16 + t, by first | done | rfl | go_num, HE.out, by omega⟩, rfl⟩
    · by_cases hc : 256 ≤ x
      · have tp : ¬ (4294967296 : Int) ≤ (x : Int) := by omega
        have tq : ¬ (65536 : Int) ≤ (x : Int) := by omega
        obtain ⟨r, hr⟩ : ∃ y, y = x / 256 := ⟨_, rfl⟩
        have kr : (x : Int) / 256 = (r : Int) := by omega
        have tr : (256 : Int) ≤ (x : Int) := by omega
        have y9 : r < 256 := by omega
        obtain ⟨t, kt, t1, t2⟩ := HB.out r y9
        have HE : Hid (x < 2 ^ (8 + t)) := len_up (y := r) t1 (by simp only [Nat.reducePow]; omega)
        have km : (r : Int) % 256 = (r : Int) := by omega
        clear HB hr
        go_wp2_with fail
        go_ret
        exact ⟨⟨8 + t, by first | done | rfl | go_num, HE.out, by omega⟩, rfl⟩
      · have tp : ¬ (4294967296 : Int) ≤ (x : Int) := by omega
        have tq : ¬ (65536 : Int) ≤ (x : Int) := by omega
        have tr : ¬ (256 : Int) ≤ (x : Int) := by omega
        have y9 : x < 256 := by omega
        obtain ⟨t, kt, t1, t2⟩ := HB.out x y9
        have HE : Hid (x < 2 ^ (0 + t)) := len_up (y := x) t1 (by simp only [Nat.reducePow]; omega)
        have km : (x : Int) % 256 = (x : Int) := by omega
        clear HB 
        go_wp2_with fail
        go_ret
        exact ⟨⟨t, by first | rfl | go_num, by simpa using HE.out, by omega⟩, rfl⟩
/-- A digit to the base 16. -/
def dgt (n p : Nat) : Nat := n / 16 ^ p % 16
theorem dgt_lt (n p : Nat) : dgt n p < 16 := Nat.mod_lt _ (by omega)
theorem word_digit (n p q r : Nat) (hq : q = p * 4 / 64) (hr : r = p * 4 % 64) : w4 n q / 2 ^ r % 16 = dgt n p := by
  unfold w4 dgt
  have e : 16 ^ p = BB ^ q * 2 ^ r := by
    rw [show (16 : Nat) = 2 ^ 4 from rfl, ← Nat.pow_mul, show BB = 2 ^ 64 from rfl, ← Nat.pow_mul, ← Nat.pow_add]
    congr 1
    omega
  rw [e, ← Nat.div_div_eq_div_mul]
  generalize n / BB ^ q = y
  have hB : BB = 2 ^ r * (16 * 2 ^ (60 - r)) := by
    rw [show (16 : Nat) = 2 ^ 4 from rfl, ← Nat.pow_add, ← Nat.pow_add, show BB = 2 ^ 64 from rfl]
    congr 1
    omega
  rw [hB, Nat.mod_mul_right_div_self, Nat.mod_mul_right_mod]
set_option maxRecDepth 100000 in
set_option maxHeartbeats 2000000 in
theorem digit_any (w : World) {n p : Nat} (hp : p < 64) : Calls Tryz.prog 94 #[A4 n, .int .i64 (p : Int)] w fun e w' => e = .returned (.int .i64 (dgt n p : Int)) ∧ Below w.heap.size w w' := by
  show Calls Tryz.prog 94 #[.agg #[U (w4 n 0), U (w4 n 1), U (w4 n 2), U (w4 n 3)], .int .i64 (p : Int)] w _
  obtain ⟨a, ha⟩ : ∃ a, a = p * 4 := ⟨_, rfl⟩
  obtain ⟨q, hq⟩ : ∃ q, q = a / 64 := ⟨_, rfl⟩
  obtain ⟨r, hr⟩ : ∃ r, r = a % 64 := ⟨_, rfl⟩
  have e := word_digit n p q r (by omega) (by omega)
  have W0e : Hid (IHolds (w.alloc (.cells #[U (w4 n 0), U (w4 n 1), U (w4 n 2), U (w4 n 3)] 81)) w.heap.size 81 (us (ws4 n))) := IHolds.new w 81 (us (ws4 n))
  have B : Hid (Below w.heap.size w (w.alloc (.cells #[U (w4 n 0), U (w4 n 1), U (w4 n 2), U (w4 n 3)] 81))) := nB _ _
  have c : (w.alloc (.cells #[U (w4 n 0), U (w4 n 1), U (w4 n 2), U (w4 n 3)] 81)).cell? ⟨w.heap.size, q, none⟩ = some (U (w4 n q)) := by
    have := us_cell W0e.out q (by rw [ws4_length]; omega)
    rw [ws4_getD n q (by omega)] at this
    exact this
  have u9 : w4 n q < 18446744073709551616 := w4_lt n q
  have d9 := dgt_lt n p
  have HD : Hid (dgt n p = dgt n p) := rfl
  generalize dgt n p = d at *
  generalize hX : w4 n q = u at *
  obtain ⟨y, hy⟩ : ∃ y, y = u / 2 ^ r := ⟨_, rfl⟩
  have y9 : y < 18446744073709551616 := by rw [hy]; exact Nat.lt_of_le_of_lt (Nat.div_le_self _ _) u9
  have ky : (u : Int) / 2 ^ r = (y : Int) := by rw [hy]; norm_cast
  have ky2 : (u : Int) >>> r = (y : Int) := by rw [hy, Int.shiftRight_eq_div_pow]; norm_cast
  have kd : bits .and .u64 (y : Int) 15 = (d : Int) := by
    have h := bits_and_u64_nat y 15 y9 (by omega)
    have e2 : y &&& 15 = d := by rw [show y &&& 15 = y % 16 from Nat.and_two_pow_sub_one_eq_mod y 4, hy, e]
    rw [e2] at h
    exact h
  have ka : (p : Int) * 4 = (a : Int) := by omega
  have kq : (a : Int) / 64 = (q : Int) := by omega
  have kq2 : (a : Int).tdiv 64 = (q : Int) := by rw [Int.tdiv_eq_ediv_of_nonneg (by omega)]; omega
  have kr : (a : Int) % 64 = (r : Int) := by omega
  have kr2 : (a : Int).tmod 64 = (r : Int) := by rw [Int.tmod_eq_emod_of_nonneg (by omega)]; omega
  have a9 : a ≤ 252 := by omega
  have q9 : (q : Int) < 4 := by omega
  have r9 : r ≤ 63 := by omega
  clear hX hy e ha hq hr W0e
  go_enter Tryz.func94, Tryz.ntmps94
  go_wp2_with fail
  go_ret
  exact ⟨by first | rfl | go_num, B.out⟩
theorem dig_len {n i L D : Nat} (h0 : n < BB ^ (i + 1)) (hx : w4 n i < 2 ^ L) (hD : 64 * i + L ≤ 4 * D) : n < 16 ^ D := by
  have e : w4 n i = n / BB ^ i := by
    unfold w4
    refine Nat.mod_eq_of_lt (Nat.div_lt_of_lt_mul ?_)
    rw [← Nat.pow_succ]; exact h0
  rw [e] at hx
  have h1 : n < BB ^ i * (n / BB ^ i + 1) := Nat.lt_mul_div_succ n (BBp i)
  have h2 : BB ^ i * (n / BB ^ i + 1) ≤ BB ^ i * 2 ^ L := Nat.mul_le_mul_left _ (by omega)
  have h3 : BB ^ i * 2 ^ L = 2 ^ (64 * i + L) := by rw [show BB = 2 ^ 64 from rfl, ← Nat.pow_mul, ← Nat.pow_add]
  have h4 : 2 ^ (64 * i + L) ≤ 2 ^ (4 * D) := Nat.pow_le_pow_right (by omega) hD
  rw [Nat.pow_mul 2 4 D, show (2 : Nat) ^ 4 = 16 from rfl] at h4
  rw [h3] at h2
  exact Nat.lt_of_lt_of_le h1 (Nat.le_trans h2 h4)
theorem dig_next {n i : Nat} (h0 : n < BB ^ (i + 1)) (hx : w4 n i = 0) : n < BB ^ i := by
  have e : w4 n i = n / BB ^ i := by
    unfold w4
    refine Nat.mod_eq_of_lt (Nat.div_lt_of_lt_mul ?_)
    rw [← Nat.pow_succ]; exact h0
  rw [e] at hx
  have h1 : n < BB ^ i * (n / BB ^ i + 1) := Nat.lt_mul_div_succ n (BBp i)
  rw [hx] at h1
  omega
set_option maxRecDepth 100000 in
set_option maxHeartbeats 2000000 in
theorem digits_any (w : World) {n : Nat} (hn : n < BB ^ 4) : Calls Tryz.prog 93 #[A4 n] w fun e w' => (∃ D : Nat, e = .returned (.int .i64 (D : Int)) ∧ n < 16 ^ D ∧ D ≤ 64) ∧ Below w.heap.size w w' := by
  show Calls Tryz.prog 93 #[.agg #[U (w4 n 0), U (w4 n 1), U (w4 n 2), U (w4 n 3)]] w _
  have J0 : Hid (IHolds (w.alloc (.cells #[U (w4 n 0), U (w4 n 1), U (w4 n 2), U (w4 n 3)] 81)) w.heap.size 81 (us (ws4 n))) := IHolds.new w 81 (us (ws4 n))
  have B0 : Hid (Below w.heap.size w (w.alloc (.cells #[U (w4 n 0), U (w4 n 1), U (w4 n 2), U (w4 n 3)] 81))) := nB _ _
  have HN : Hid (n < BB ^ 4) := hn
  clear hn
  go_enter Tryz.func93, Tryz.ntmps93
  go_wp2_with fail
  generalize w.alloc (.cells #[U (w4 n 0), U (w4 n 1), U (w4 n 2), U (w4 n 3)] 81) = W0 at *
  go_loopg [3] 4 (fun gk v3 wr => ∃ i : Nat, i = gk ∧ v3 = .int .i64 ((i : Int) - 1) ∧ i ≤ 4 ∧ n < BB ^ i ∧ IHolds wr w.heap.size 81 (us (ws4 n)) ∧ Below w.heap.size w wr)
  case atStart => exact ⟨4, rfl, rfl, by omega, HN.out, J0.out, B0.out⟩
  case round =>
    clear HN J0 B0
    obtain ⟨i, rfl, rfl, hi4, hn, hJ, hB⟩ := hrel
    have J : Hid (IHolds wr w.heap.size 81 (us (ws4 n))) := hJ
    have B : Hid (Below w.heap.size w wr) := hB
    have HN : Hid (n < BB ^ i) := hn
    clear hJ hB hn
    by_cases h0 : 0 < i
    · obtain ⟨j, hj⟩ : ∃ j, j = i - 1 := ⟨_, rfl⟩
      have kj : (i : Int) - 1 = (j : Int) := by omega
      have j4 : (j : Int) < 4 := by omega
      have Hj : Hid (i = j + 1) := by show _ = _; omega
      have HN2 : Hid (n < BB ^ (j + 1)) := by show _ < _; rw [← Hj.out]; exact HN.out
      have c : wr.cell? ⟨w.heap.size, j, none⟩ = some (U (w4 n j)) := by
        have := us_cell J.out j (by rw [ws4_length]; omega)
        rw [ws4_getD n j (by omega)] at this
        exact this
      have u9 : w4 n j < 18446744073709551616 := w4_lt n j
      have HL' : Hid (∀ (L D : Nat), w4 n j < 2 ^ L → 64 * j + L ≤ 4 * D → n < 16 ^ D) := fun L D h1 h2 => dig_len HN2.out h1 h2
      have HX' : Hid (w4 n j = 0 → n < BB ^ j) := dig_next HN2.out
      generalize w4 n j = u at *
      by_cases hu : u = 0
      · have HX2 : Hid (n < BB ^ j) := HX'.out hu
        subst hu
        clear hj HL' HX' HN HN2
        go_wp2_with fail
        go_roundg (i - 1)
        case measure => omega
        case rel => exact ⟨j, by have := Hj.out; omega, by go_num, by omega, HX2.out, J.out, B.out⟩
      · have hu1 : ((u : Int) != 0) = true := bne_iff_ne.2 (by omega)
        have hu2 : ¬ (u : Int) = 0 := by omega
        obtain ⟨m, hm⟩ : ∃ m, m = j * 64 := ⟨_, rfl⟩
        have km : (j : Int) * 64 = (m : Int) := by omega
        have m9 : m ≤ 192 := by omega
        have Hm : Hid (m = j * 64) := hm
        clear hm hj
        go_wp2_with fail
        refine (len64_any u u9 wr).mono ?_
        rintro e w' ⟨⟨L, rfl, hL, L9⟩, hw⟩
        rw [hw]
        obtain ⟨D, hD⟩ : ∃ D, D = (m + L + 4 - 1) / 4 := ⟨_, rfl⟩
        have HD : Hid (n < 16 ^ D) := HL'.out L D hL (by have := Hm.out; omega)
        have D9 : D ≤ 64 := by omega
        obtain ⟨m1, hm1⟩ : ∃ m1, m1 = m + L := ⟨_, rfl⟩
        have k1 : (m : Int) + (L : Int) = (m1 : Int) := by omega
        obtain ⟨m2, hm2⟩ : ∃ m2, m2 = m1 + 4 := ⟨_, rfl⟩
        have k2 : (m1 : Int) + 4 = (m2 : Int) := by omega
        obtain ⟨m3, hm3⟩ : ∃ m3, m3 = m2 - 1 := ⟨_, rfl⟩
        have k3 : (m2 : Int) - 1 = (m3 : Int) := by omega
        have k4 : (m3 : Int) / 4 = (D : Int) := by omega
        have k5 : (m3 : Int).tdiv 4 = (D : Int) := by rw [Int.tdiv_eq_ediv_of_nonneg (by omega)]; omega
        have b1 : m1 ≤ 1000 := by omega
        have b2 : m2 ≤ 1000 := by omega
        have b3 : m3 ≤ 1000 := by omega
        clear hD hm1 hm2 hm3 hw HL' HX' HN HN2 hL
        go_wp2_with fail
        go_ret
        exact ⟨⟨D, by first | rfl | go_num, HD.out, D9⟩, B.out⟩
    · obtain rfl : i = 0 := by omega
      have HZ : Hid (n = 0) := by have := HN.out; show _ = _; simpa using this
      clear HN
      go_wp2_with fail
      go_ret
      exact ⟨⟨0, by first | rfl | go_num, by rw [HZ.out]; decide, by omega⟩, B.out⟩
end Go.Proofs.YtohpbclofcflaaaGreat
