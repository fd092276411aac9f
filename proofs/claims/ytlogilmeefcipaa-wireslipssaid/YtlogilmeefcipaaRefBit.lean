/- Plain: single bits of a text; the walks of the document's bit and values. -/
import Derived.Test.YtlogilmeefcipaaVals
set_option linter.unusedSimpArgs false
set_option linter.unusedVariables false
set_option maxRecDepth 100000
namespace Go.Proofs.Ytlogilmeefcipaa
open Go.RowKit Go.Deep Go.PlainAid

theorem dgs_get (B : Nat) : ∀ (m X j : Nat) (h : j < (dgs B m X).length), (dgs B m X)[j] = X / B ^ (m - 1 - j) % B
  | 0, X, j, h => by simp [dgs] at h
  | m + 1, X, j, h => by
    rw [dgs_length] at h
    simp only [dgs]
    by_cases hj : j < m
    · rw [List.getElem_append_left (by rw [dgs_length]; exact hj), dgs_get B m (X / B) j (by rw [dgs_length]; exact hj), Nat.div_div_eq_div_mul, show m + 1 - 1 - j = (m - 1 - j) + 1 by omega, Nat.pow_succ, Nat.mul_comm]
    · obtain rfl : j = m := by omega
      rw [List.getElem_append_right (by rw [dgs_length]; omega)]
      simp [dgs_length]
theorem bs_get (s : ByteArray) (q : Nat) (h : q < (bs s).length) : V 256 (bs s) / 256 ^ (s.size - 1 - q) % 256 = (bs s)[q] := by
  have e := V_inj (B := 256) (by omega) s.size (bs s) (bs_length s) (bs_lt s)
  have h' : q < (dgs 256 s.size (V 256 (bs s))).length := by rw [dgs_length, ← bs_length s]; exact h
  rw [← dgs_get 256 s.size (V 256 (bs s)) q h']
  congr 1
  exact e.symm
/-- A bit of a text; zeros behind it. -/
def bitN (s : ByteArray) (p : Nat) : Nat := (bs s).getD (p / 8) 0 / 2 ^ (7 - p % 8) % 2
theorem low_bit (Z t : Nat) (h : t < 8) : Z % 256 / 2 ^ t % 2 = Z / 2 ^ t % 2 := by
  have e : 256 = 2 ^ t * (2 * 2 ^ (7 - t)) := by
    rw [← Nat.pow_succ', ← Nat.pow_add, show t + (7 - t + 1) = 8 by omega]
  rw [e, Nat.mod_mul_right_div_self, Nat.mod_mul_right_mod]
theorem bit_of {s : ByteArray} {p : Nat} (hp : p < 5 * sgn s.size) : V 256 (bs s) * 2 ^ (5 * sgn s.size - 8 * s.size) / 2 ^ (5 * sgn s.size - 1 - p) % 2 = bitN s p := by
  unfold bitN
  have hm : 8 * s.size ≤ 5 * sgn s.size := by unfold sgn; omega
  generalize hX : V 256 (bs s) = X
  by_cases h : p < 8 * s.size
  · have hq : p / 8 < (bs s).length := by rw [bs_length]; omega
    rw [List.getD_eq_getElem?_getD, List.getElem?_eq_getElem hq, Option.getD_some, ← bs_get s _ hq, low_bit _ _ (by omega), hX, Nat.div_div_eq_div_mul]
    rw [show 5 * sgn s.size - 1 - p = (5 * sgn s.size - 8 * s.size) + (8 * s.size - 1 - p) by omega, Nat.pow_add, Nat.mul_comm X, Nat.mul_div_mul_left _ _ (Nat.pow_pos (by omega))]
    congr 2
    rw [show (256 : Nat) = 2 ^ 8 by rfl, ← Nat.pow_mul, ← Nat.pow_add]
    congr 1
    omega
  · rw [List.getD_eq_getElem?_getD, List.getElem?_eq_none (by rw [bs_length]; omega), Option.getD_none, Nat.zero_div]
    rw [show 5 * sgn s.size - 8 * s.size = (5 * sgn s.size - 1 - p) + (1 + (p - 8 * s.size)) by omega, Nat.pow_add, Nat.mul_left_comm, Nat.mul_div_cancel_left _ (Nat.pow_pos (by omega)), Nat.pow_add, Nat.pow_one, ← Nat.mul_assoc, Nat.mul_right_comm, Nat.mul_mod_left]
/-- The first k bits of a value. -/
def valK (s : ByteArray) (j k : Nat) : Nat := V 256 (bs s) * 2 ^ (5 * sgn s.size - 8 * s.size) / 2 ^ (5 * (sgn s.size - j) - k) % 2 ^ k
theorem valK_zero (s : ByteArray) (j : Nat) : valK s j 0 = 0 := by simp [valK, Nat.mod_one]
theorem valK_succ {s : ByteArray} {j k : Nat} (hj : j < sgn s.size) (hk : k < 5) : valK s j (k + 1) = 2 * valK s j k + bitN s (5 * j + k) := by
  rw [← bit_of (by omega)]
  unfold valK
  rw [show 5 * sgn s.size - 1 - (5 * j + k) = 5 * (sgn s.size - j) - (k + 1) by omega, Nat.pow_succ', Nat.mod_mul]
  rw [show 5 * (sgn s.size - j) - k = (5 * (sgn s.size - j) - (k + 1)) + 1 by omega, Nat.pow_succ, ← Nat.div_div_eq_div_mul]
  omega
theorem valK_lt (s : ByteArray) (j k : Nat) : valK s j k < 2 ^ k := Nat.mod_lt _ (Nat.pow_pos (by omega))
theorem valK_all {s : ByteArray} {j : Nat} (hj : j < (vals s).length) : valK s j 5 = (vals s)[j] := by
  have hj' : j < sgn s.size := by rw [vals_length] at hj; exact hj
  have := dgs_get 32 (sgn s.size) (V 256 (bs s) * 2 ^ (5 * sgn s.size - 8 * s.size)) j hj
  show _ = (dgs 32 (sgn s.size) (V 256 (bs s) * 2 ^ (5 * sgn s.size - 8 * s.size)))[j]
  rw [this]
  unfold valK
  rw [show (32 : Nat) = 2 ^ 5 by rfl, ← Nat.pow_mul, show 5 * (sgn s.size - 1 - j) = 5 * (sgn s.size - j) - 5 by omega]
/-- A byte of a text. -/
def bt (s : ByteArray) (n : Nat) : Nat := (bs s).getD n 0
theorem bt_lt (s : ByteArray) (n : Nat) : bt s n < 256 := by
  unfold bt
  by_cases h : n < (bs s).length
  · rw [List.getD_eq_getElem?_getD, List.getElem?_eq_getElem h]
    exact bs_lt s _ (List.getElem_mem _)
  · rw [List.getD_eq_getElem?_getD, List.getElem?_eq_none (by omega)]
    decide
theorem get_bs (s : ByteArray) : ∀ (n : Nat) (h : n < s.size), ((s[n].toNat : Nat) : Int) = (bt s n : Int) := by
  intro n h
  unfold bt
  have h' : n < s.data.toList.length := h
  simp [bs, List.getD_eq_getElem?_getD, List.getElem?_map, List.getElem?_eq_getElem h']
  rfl
set_option maxHeartbeats 1000000 in
theorem bit_any (w : World) (s : ByteArray) (p : Nat) (hp : p ≤ 1000000) (hs : s.size ≤ 1000000) :
    Calls Try.prog 31 #[.string s, .int .i64 (p : Int)] w fun e w' => e = .returned (.int .i64 (bitN s p : Int)) ∧ Below w.heap.size w w' := by
  have hb := get_bs s
  obtain ⟨q, hq⟩ : ∃ q, q = p / 8 := ⟨_, rfl⟩
  obtain ⟨t, ht⟩ : ∃ t, t = 7 - p % 8 := ⟨_, rfl⟩
  have kq : (p : Int).tdiv 8 = (q : Int) := by rw [Int.tdiv_eq_ediv_of_nonneg (by omega)]; omega
  have kq2 : (p : Int) / 8 = (q : Int) := by omega
  obtain ⟨p8, hp8⟩ : ∃ p8, p8 = p % 8 := ⟨_, rfl⟩
  have kr : (p : Int).tmod 8 = (p8 : Int) := by rw [Int.tmod_eq_emod_of_nonneg (by omega)]; omega
  have kr2 : (p : Int) % 8 = (p8 : Int) := by omega
  have kt : (7 : Int) - (p8 : Int) = (t : Int) := by omega
  have t7 : t ≤ 7 := by omega
  have E : Hid (bitN s p = bt s q / 2 ^ t % 2) := by show _ = _; rw [hq, ht]; rfl
  by_cases h : q < s.size
  · have c9 : bt s q < 256 := bt_lt s q
    have kn : ¬ (s.size : Int) ≤ (q : Int) := by omega
    have kl : (q : Int) < (s.size : Int) := by omega
    clear hq ht hp8
    go_enter Try.func31, Try.ntmps31
    go_upto_region 3 with fail
    go_wp2_with fail
    clear hb
    generalize bt s q = c at *
    go_loopg [5, 6] t (fun gk v5 v6 wr => ∃ k : Nat, k + gk = t ∧ v6 = .int .i64 (k : Int) ∧ v5 = .int .i64 ((c / 2 ^ k : Nat) : Int) ∧ Below w.heap.size w wr)
    case atStart => exact ⟨0, by omega, rfl, by simp, Below.refl _ _⟩
    case round =>
      obtain ⟨k, hk, rfl, rfl, hB⟩ := hrel
      have B : Hid (Below w.heap.size w wr) := hB
      clear hB
      have H2 : Hid (c / 2 ^ k / 2 = c / 2 ^ (k + 1)) := by show _ = _; rw [Nat.div_div_eq_div_mul, Nat.pow_succ]
      have c8 : c / 2 ^ k ≤ c := Nat.div_le_self _ _
      by_cases hkt : k < t
      · have klt : (k : Int) < (t : Int) := by omega
        generalize c / 2 ^ k = x at *
        obtain ⟨y, hy⟩ : ∃ y, y = x / 2 := ⟨_, rfl⟩
        rw [← hy] at H2
        have kx : (x : Int).tdiv 2 = (y : Int) := by rw [Int.tdiv_eq_ediv_of_nonneg (by omega)]; omega
        have kx2 : (x : Int) / 2 = (y : Int) := by omega
        clear hy
        go_wp2_with fail
        go_roundg (gk - 1)
        case measure => omega
        case rel => exact ⟨k + 1, by omega, by go_num, by rw [← H2.out], B.out⟩
      · obtain rfl : k = t := by omega
        have knt : ¬ ((k : Nat) : Int) < (k : Int) := by omega
        generalize hx : c / 2 ^ k = x at *
        have HX : Hid (c / 2 ^ k = x) := hx
        clear hx
        obtain ⟨y, hy⟩ : ∃ y, y = x % 2 := ⟨_, rfl⟩
        have HY : Hid (x % 2 = y) := hy.symm
        have kx : (x : Int).tmod 2 = (y : Int) := by rw [Int.tmod_eq_emod_of_nonneg (by omega)]; omega
        have kx2 : (x : Int) % 2 = (y : Int) := by omega
        clear hy
        go_wp2_with fail
        go_ret
        exact ⟨by rw [E.out, HY.out]; rfl, B.out⟩
  · have E0 : Hid (bitN s p = 0) := by
      show _ = _
      rw [E.out, bt, List.getD_eq_getElem?_getD, List.getElem?_eq_none (by rw [bs_length]; omega)]
      simp
    have kn : (s.size : Int) ≤ (q : Int) := by omega
    clear hq ht hp8
    go_enter Try.func31, Try.ntmps31
    go_wp2_with fail
    go_ret
    exact ⟨by rw [E0.out]; rfl, Below.refl _ _⟩
theorem sgn_lt {n j : Nat} : j < sgn n ↔ 5 * j < 8 * n := by unfold sgn; omega
set_option maxHeartbeats 1000000 in
theorem refValues_any (w : World) (s : ByteArray) (hs : s.size ≤ 64) :
    Calls Try.prog 19 #[.string s] w fun e w' => (∃ v, e = .returned v ∧ w'.ownsRow w.heap.size 3 1 v (vals s).length ((vals s).map Z)) ∧ Below w.heap.size w w' := by
  obtain ⟨i0, hi0, hz0, hz1, hz2⟩ := info_parts info3
  have hm : (vals s).length = sgn s.size := vals_length s
  have hm9 : sgn s.size ≤ 103 := by unfold sgn; omega
  go_enter Try.func19, Try.ntmps19
  go_wp2_with fail
  go_loopg [3, 4, 5, 6] (vals s).length (fun gk v3 v4 v5 v6 wr => ∃ (j : Nat) (v : Value), v = v3 ∧ j + gk = (vals s).length ∧ v4 = .int .i64 ((5 * j : Nat) : Int) ∧ wr.ownsRow w.heap.size 3 1 v j (((vals s).take j).map Z) ∧ Below w.heap.size w wr)
  case atStart => exact ⟨0, _, rfl, by omega, rfl, World.ownsRow_nil _ _ _ _, Below.refl _ _⟩
  case round =>
    obtain ⟨j, v, rfl, hj, rfl, ho, hB⟩ := hrel
    have O : Hid (wr.ownsRow w.heap.size 3 1 v j (((vals s).take j).map Z)) := ho
    have B : Hid (Below w.heap.size w wr) := hB
    clear ho hB
    obtain ⟨i, hi⟩ : ∃ i, i = 5 * j := ⟨_, rfl⟩
    rw [← hi]
    by_cases hlt : j < sgn s.size
    · have k1 : (i : Int) < 8 * (s.size : Int) := by have := sgn_lt.1 hlt; omega
      have KS : Hid (∀ k, k < 5 → valK s j (k + 1) = 2 * valK s j k + bitN s (i + k)) := fun k hk => by rw [hi]; exact valK_succ hlt hk
      have KL : Hid (∀ k, k ≤ 5 → valK s j k ≤ 32) := fun k hk => Nat.le_of_lt (Nat.lt_of_lt_of_le (valK_lt s j k) (show 2 ^ k ≤ 2 ^ 5 from Nat.pow_le_pow_right (by omega) hk))
      have K5 : Hid (valK s j 5 = (vals s)[j]'(by omega)) := valK_all (by omega)
      have i9 : i ≤ 600 := by omega
      have HI : Hid (i = 5 * j) := hi
      clear hi
      generalize gk = G0 at *
      go_upto_region 7 with fail
      clear k1
      go_loopg [5, 6] 5 (fun gk2 v5 v6 wq => ∃ (k : Nat), k + gk2 = 5 ∧ v6 = .int .i64 (k : Int) ∧ v5 = .int .i64 (valK s j k : Int) ∧ wq.ownsRow w.heap.size 3 1 v j (((vals s).take j).map Z) ∧ Below w.heap.size w wq)
      case atStart => exact ⟨0, by omega, rfl, by rw [valK_zero]; rfl, O.out, B.out⟩
      case round =>
        clear O B
        obtain ⟨k, hk, rfl, rfl, ho, hB⟩ := hrel
        have O : Hid (wr.ownsRow w.heap.size 3 1 v j (((vals s).take j).map Z)) := ho
        have B : Hid (Below w.heap.size w wr) := hB
        clear ho hB
        have l1 := KL.out k (by omega)
        by_cases hk5 : k < 5
        · have kk : (k : Int) < 5 := by omega
          have S1 : Hid (valK s j (k + 1) = 2 * valK s j k + bitN s (i + k)) := KS.out k hk5
          have CB : Hid (Calls Try.prog 31 #[.string s, .int .i64 ((i + k : Nat) : Int)] wr fun e w' => e = .returned (.int .i64 (bitN s (i + k) : Int)) ∧ Below wr.heap.size wr w') := bit_any wr s (i + k) (by omega) (by omega)
          have b1 : bitN s (i + k) ≤ 1 := by unfold bitN; omega
          generalize bitN s (i + k) = bb at *
          generalize valK s j k = x at *
          obtain ⟨ik, hik⟩ : ∃ ik, ik = i + k := ⟨_, rfl⟩
          rw [← hik] at CB
          have kik : (i : Int) + (k : Int) = (ik : Int) := by omega
          clear hik
          go_wp2_with fail
          refine CB.out.mono ?_
          rintro e W1 ⟨rfl, hb⟩
          have O1 : Hid (W1.ownsRow w.heap.size 3 1 v j (((vals s).take j).map Z)) := ownsRow_below O.out hb
          have B1 : Hid (Below w.heap.size w W1) := B.out.trans (hb.mono B.out.size)
          clear hb CB
          go_wp2_with fail
          go_roundg (gk - 1)
          case measure => omega
          case rel => exact ⟨k + 1, by omega, by go_num, by rw [S1.out]; go_num, O1.out, B1.out⟩
        · obtain rfl : k = 5 := by omega
          have kk : ¬ ((5 : Nat) : Int) < 5 := by omega
          have KK : Hid (((vals s).take j).map Z ++ [J (valK s j 5 : Int)] = ((vals s).take (j + 1)).map Z) := by
            show _ = _
            rw [List.take_succ_eq_append_getElem (by omega), List.map_append, K5.out]; rfl
          clear K5
          generalize valK s j 5 = q at *
          have O2 : Hid ((wr.alloc (.cells #[.int .i64 (q : Int)] 3)).ownsRow w.heap.size 3 1 v j (((vals s).take j).map Z)) := O.out.alloc _
          have C2 : Hid (∀ jj u, [J (q : Int)][jj]? = some u → (wr.alloc (.cells #[.int .i64 (q : Int)] 3)).cell? ((⟨wr.heap.size, 0, none⟩ : Addr).add jj) = some u) := fun jj u hu => by
            match jj, hu with
            | 0, hu => simp at hu; subst hu; simp [Addr.add]
          have B2 : Hid (Below w.heap.size w (wr.alloc (.cells #[.int .i64 (q : Int)] 3))) := B.out.alloc B.out.size _
          go_wp2_with (at_builtin; refine wpList_append_own _ rfl (.tmp 26) (.tmp 28) 43 rfl w.heap.size 3 i0 (.int .i64 0) 1 8 Try.underlying43 hi0 hz0 hz1 hz2 rfl (by decide) v j (((vals s).take j).map Z) rfl O2.out ⟨wr.heap.size, 0, none⟩ 1 1 [J (q : Int)] rfl rfl C2.out (fun u hu => by simp at hu; subst hu; rfl) (by unfold maxLen; omega) (by omega) B2.out.size ?_; intro v1 w1 hown1 hgrow1 hn1; have O3 : Hid (w1.ownsRow w.heap.size 3 1 v1 (j + 1) (((vals s).take j).map Z ++ [J (q : Int)])) := hown1; have B3 : Hid (Below w.heap.size w w1) := B2.out.grown hgrow1 B2.out.size (fun k hk => (O2.out.lt k hk).1); clear hown1 hgrow1 hn1)
          go_roundg (G0 - 1)
          case measure => omega
          case rel => exact ⟨j + 1, v1, rfl, by omega, by have := HI.out; subst this; go_num, by rw [← KK.out]; exact O3.out, B3.out⟩
    · obtain rfl : j = sgn s.size := by omega
      have k1 : ¬ (i : Int) < 8 * (s.size : Int) := by have h9 : ¬ 5 * sgn s.size < 8 * s.size := fun h => hlt (sgn_lt.2 h); omega
      have O4 : Hid (wr.ownsRow w.heap.size 3 1 v (sgn s.size) ((vals s).map Z)) := by
        have := O.out
        rw [List.take_of_length_le (by omega)] at this
        exact this
      clear hi hlt
      go_wp2_with fail
      go_ret
      exact ⟨⟨v, rfl, O4.out⟩, B.out⟩
end Go.Proofs.Ytlogilmeefcipaa
