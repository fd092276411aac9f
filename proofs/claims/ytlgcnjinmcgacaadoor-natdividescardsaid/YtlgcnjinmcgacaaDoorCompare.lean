/- The walks of compare (the program's and the reference's). -/
import Derived.Test.YtlgcnjinmcgacaaDoorPut
set_option linter.unusedSimpArgs false
set_option linter.unusedVariables false
namespace Go.Proofs.YtlgcnjinmcgacaaDoor
open Go.RowKit

/-- -1, 0 or 1, as x is below y, y itself, or above it. -/
def cmp3 (x y : Int) : Int := if x < y then -1 else if y < x then 1 else 0
theorem cmp3_lt {x y : Int} (h : x < y) : cmp3 x y = -1 := by simp [cmp3, h]
theorem cmp3_gt {x y : Int} (h : y < x) : cmp3 x y = 1 := by simp [cmp3, h]; omega
theorem cmp3_eq {x y : Int} (h : x = y) : cmp3 x y = 0 := by simp [cmp3, h]
theorem drewN_ex {w wr : World} (h : ∃ k, wr = w.drewN k) (n : Nat) : ∃ k, wr.drewN n = w.drewN k := by
  obtain ⟨k, rfl⟩ := h
  exact ⟨k + n, World.drewN_drewN w k n⟩
theorem ret_i {a b : Int} (h : a = b) : Ending.returned (.int .i64 a) = .returned (.int .i64 b) := by rw [h]

set_option maxHeartbeats 400000 in
theorem nan115_any (x : Int) (w : World) : Calls Tryd.prog 115 #[.int .i64 x] w fun e w' => e = .returned (.bool false) ∧ w' = w := by
  have h : (x != x) = false := by simp
  go_enter Tryd.func115, Tryd.ntmps115
  go_wp2_with fail
  go_ret
  exact ⟨by simp, rfl⟩

set_option maxHeartbeats 400000 in
theorem nan116_any (x : Int) (w : World) : Calls Tryd.prog 116 #[.int .i64 x] w fun e w' => e = .returned (.bool false) ∧ w' = w := by
  have h : (x != x) = false := by simp
  go_enter Tryd.func116, Tryd.ntmps116
  go_wp2_with fail
  go_ret
  exact ⟨by simp, rfl⟩

set_option maxHeartbeats 400000 in
theorem cmp92_any (x y : Int) (w : World) : Calls Tryd.prog 92 #[.int .i64 x, .int .i64 y] w fun e w' => e = .returned (.int .i64 (cmp3 x y)) ∧ w' = w := by
  go_enter Tryd.func92, Tryd.ntmps92
  rcases Int.lt_trichotomy x y with h | h | h
  · go_wp2_with (go_at_call 115; refine (nan115_any _ _).mono ?_; rintro e w' ⟨rfl, rfl⟩)
    go_ret
    exact ⟨ret_i (cmp3_lt h).symm, rfl⟩
  · subst h
    have h1 : ¬ x < x := by omega
    go_wp2_with (go_at_call 115; refine (nan115_any _ _).mono ?_; rintro e w' ⟨rfl, rfl⟩)
    go_ret
    exact ⟨ret_i (cmp3_eq rfl).symm, rfl⟩
  · have h1 : ¬ x < y := by omega
    go_wp2_with (go_at_call 115; refine (nan115_any _ _).mono ?_; rintro e w' ⟨rfl, rfl⟩)
    go_ret
    exact ⟨ret_i (cmp3_gt h).symm, rfl⟩

set_option maxHeartbeats 400000 in
theorem cmp93_any (x y : Int) (w : World) : Calls Tryd.prog 93 #[.int .i64 x, .int .i64 y] w fun e w' => e = .returned (.int .i64 (cmp3 x y)) ∧ w' = w := by
  go_enter Tryd.func93, Tryd.ntmps93
  rcases Int.lt_trichotomy x y with h | h | h
  · go_wp2_with (go_at_call 116; refine (nan116_any _ _).mono ?_; rintro e w' ⟨rfl, rfl⟩)
    go_ret
    exact ⟨ret_i (cmp3_lt h).symm, rfl⟩
  · subst h
    have h1 : ¬ x < x := by omega
    go_wp2_with (go_at_call 116; refine (nan116_any _ _).mono ?_; rintro e w' ⟨rfl, rfl⟩)
    go_ret
    exact ⟨ret_i (cmp3_eq rfl).symm, rfl⟩
  · have h1 : ¬ x < y := by omega
    go_wp2_with (go_at_call 116; refine (nan116_any _ _).mono ?_; rintro e w' ⟨rfl, rfl⟩)
    go_ret
    exact ⟨ret_i (cmp3_gt h).symm, rfl⟩

/-! ### Two lists, from the top down -/
theorem drop_same_step {l r : List Nat} {i : Nat} (hl : i < l.length) (hr : i < r.length) (he : l.drop (i + 1) = r.drop (i + 1)) (hx : l[i] = r[i]) : l.drop i = r.drop i := by
  rw [List.drop_eq_getElem_cons hl, List.drop_eq_getElem_cons hr, he, hx]
theorem cmp_at_lt {B n m i : Nat} (hB : 2 ≤ B) (hl : i < (dg B n).length) (hr : i < (dg B m).length) (he : (dg B n).drop (i + 1) = (dg B m).drop (i + 1)) (hx : (dg B n)[i] < (dg B m)[i]) : cmp3 (n : Int) (m : Int) = -1 := by
  have := vl_part (dg B n) (dg B m) i (dg_mem hB n) hl hr he hx
  rw [vl_dg hB, vl_dg hB] at this
  exact cmp3_lt (by omega)
theorem cmp_at_gt {B n m i : Nat} (hB : 2 ≤ B) (hl : i < (dg B n).length) (hr : i < (dg B m).length) (he : (dg B n).drop (i + 1) = (dg B m).drop (i + 1)) (hx : (dg B m)[i] < (dg B n)[i]) : cmp3 (n : Int) (m : Int) = 1 := by
  have := vl_part (dg B m) (dg B n) i (dg_mem hB m) hr hl he.symm hx
  rw [vl_dg hB, vl_dg hB] at this
  exact cmp3_gt (by omega)
theorem cmp_same {B n m : Nat} (hB : 2 ≤ B) (he : (dg B n).drop 0 = (dg B m).drop 0) : cmp3 (n : Int) (m : Int) = 0 := by
  rw [List.drop_zero, List.drop_zero] at he
  exact cmp3_eq (by rw [dg_inj hB he])
theorem cmp_len {B n m : Nat} (hB : 2 ≤ B) (h : (dg B n).length ≠ (dg B m).length) : cmp3 ((dg B n).length : Int) ((dg B m).length : Int) = cmp3 (n : Int) (m : Int) := by
  rcases Nat.lt_or_gt_of_ne h with h | h
  · rw [cmp3_lt (by omega), cmp3_lt (by have := lt_of_len_lt hB h; omega)]
  · rw [cmp3_gt (by omega), cmp3_gt (by have := lt_of_len_lt hB h; omega)]

set_option maxRecDepth 100000 in
set_option maxHeartbeats 1000000 in
theorem compare_any (w : World) (a1 a2 : Option Addr) (cap1 cap2 n m : Nat) (h1 : Row w a1 (dg 1000000000 n)) (h2 : Row w a2 (dg 1000000000 m)) (b1 : (dg 1000000000 n).length ≤ 1000000) (b2 : (dg 1000000000 m).length ≤ 1000000) :
    Calls Tryd.prog 59 #[.slice a1 (dg 1000000000 n).length cap1, .slice a2 (dg 1000000000 m).length cap2] w fun e w' => e = .returned (.int .i64 (cmp3 (n : Int) (m : Int))) ∧ ∃ k, w' = w.drewN k := by
  have K1 : Hid (∀ i (hl : i < (dg 1000000000 n).length) (hr : i < (dg 1000000000 m).length), (dg 1000000000 n).drop (i + 1) = (dg 1000000000 m).drop (i + 1) → (dg 1000000000 n)[i] < (dg 1000000000 m)[i] → cmp3 (n : Int) (m : Int) = -1) := fun i => cmp_at_lt (by omega)
  have K2 : Hid (∀ i (hl : i < (dg 1000000000 n).length) (hr : i < (dg 1000000000 m).length), (dg 1000000000 n).drop (i + 1) = (dg 1000000000 m).drop (i + 1) → (dg 1000000000 m)[i] < (dg 1000000000 n)[i] → cmp3 (n : Int) (m : Int) = 1) := fun i => cmp_at_gt (by omega)
  have K3 : Hid ((dg 1000000000 n).drop 0 = (dg 1000000000 m).drop 0 → cmp3 (n : Int) (m : Int) = 0) := cmp_same (by omega)
  have K4 : Hid ((dg 1000000000 n).length ≠ (dg 1000000000 m).length → cmp3 ((dg 1000000000 n).length : Int) ((dg 1000000000 m).length : Int) = cmp3 (n : Int) (m : Int)) := cmp_len (by omega)
  generalize cmp3 (n : Int) (m : Int) = c at *
  generalize dg 1000000000 n = l1 at *
  generalize dg 1000000000 m = l2 at *
  have H1 : Hid (Row w a1 l1) := h1
  have H2 : Hid (Row w a2 l2) := h2
  clear h1 h2
  go_enter Tryd.func59, Tryd.ntmps59
  by_cases hlen : l1.length = l2.length
  · rw [hlen]
    go_wp2_with fail
    go_loopg [5] (l1.length + 1) (fun gk v5 wr => ∃ i : Nat, i + 1 = gk ∧ i ≤ l1.length ∧ v5 = .int .i64 ((i : Int) - 1) ∧ l1.drop i = l2.drop i ∧ ∃ k, wr = w.drewN k)
    case atStart => exact ⟨l1.length, rfl, Nat.le_refl _, by rw [hlen], by rw [List.drop_length, hlen, List.drop_length], 0, rfl⟩
    case round =>
      obtain ⟨i, hi, hil, rfl, hd, k, hwr⟩ := hrel
      have HW : Hid (∃ k, wr = w.drewN k) := ⟨k, hwr⟩
      have HD : Hid (l1.drop i = l2.drop i) := hd
      clear hd
      by_cases h0 : 0 < i
      · obtain ⟨b1, o1, rfl, c1⟩ := H1.out (i - 1) (by omega)
        obtain ⟨b2, o2, rfl, c2⟩ := H2.out (i - 1) (by omega)
        have d1 : wr.cell? ⟨b1, o1 + (i - 1), none⟩ = some (I l1[i - 1]) := by rw [hwr]; exact c1
        have d2 : wr.cell? ⟨b2, o2 + (i - 1), none⟩ = some (I l2[i - 1]) := by rw [hwr]; exact c2
        clear c1 c2 hwr
        have HE : Hid (∀ x, x = i - 1 → l1.drop (x + 1) = l2.drop (x + 1)) := fun x hx => by have := HD.out; rw [show x + 1 = i by omega]; exact this
        have t0 : ((i : Int) - 1).toNat = i - 1 := by omega
        have t1 : (0 : Int) ≤ (i : Int) - 1 := by omega
        have t2 : (i : Int) - 1 < (l2.length : Int) := by omega
        have q1 : i - 1 < l1.length := by omega
        have q2 : i - 1 < l2.length := by omega
        have G1 : Hid (l1[i - 1]'q1 < l2[i - 1]'q2 → c = -1) := K1.out (i - 1) q1 q2 (HE.out _ rfl)
        have G2 : Hid (l2[i - 1]'q2 < l1[i - 1]'q1 → c = 1) := K2.out (i - 1) q1 q2 (HE.out _ rfl)
        have G3 : Hid (l1[i - 1]'q1 = l2[i - 1]'q2 → l1.drop (i - 1) = l2.drop (i - 1)) := drop_same_step (l := l1) (r := l2) (i := i - 1) q1 q2 (HE.out _ rfl)
        clear K1 K2 K3 K4 HE HD H1 H2
        generalize l1[i - 1] = x at *
        generalize l2[i - 1] = y at *
        by_cases hxy : x = y
        · subst hxy
          go_wp2_with fail
          go_quiet (fail)
          go_wp2_with fail
          go_roundg (gk - 1)
          case measure => omega
          case rel => exact ⟨i - 1, by omega, by omega, by go_num, G3.out (by first | trivial | rfl), drewN_ex HW.out nq⟩
        · have hne : ((x : Int) != (y : Int)) = true := by simp; omega
          have HQ : Hid (∀ w : World, Calls Tryd.prog 93 #[I x, I y] w fun e w' => e = .returned (.int .i64 (cmp3 (x : Int) (y : Int))) ∧ w' = w) := fun w => cmp93_any x y w
          go_wp2_with fail
          go_quiet (fail)
          have d3 : (wr.drewN nq).cell? ⟨b1, o1 + (i - 1), none⟩ = some (I x) := d1
          have d4 : (wr.drewN nq).cell? ⟨b2, o2 + (i - 1), none⟩ = some (I y) := d2
          have HW2 : Hid (∃ k, wr.drewN nq = w.drewN k) := drewN_ex HW.out nq
          clear d1 d2 HW
          generalize wr.drewN nq = wq at *
          go_wp2_with fail
          go_quiet ((go_at_call 93; exact Calls.quiet_of_same (HQ.out _)))
          go_wp2_with fail
          go_ret
          refine ⟨ret_i ?_, drewN_ex HW2.out nq⟩
          rcases Nat.lt_or_gt_of_ne hxy with h | h
          · rw [cmp3_lt (by omega), G1.out h]
          · rw [cmp3_gt (by omega), G2.out h]
      · obtain rfl : i = 0 := by omega
        have hc := K3.out HD.out
        clear hwr
        go_wp2_with fail
        go_ret
        exact ⟨ret_i hc.symm, HW.out⟩
  · have hne : ((l1.length : Int) != (l2.length : Int)) = true := by simp; omega
    have hc := K4.out hlen
    have HC : Hid (cmp3 (l1.length : Int) (l2.length : Int) = c) := hc
    clear hc
    go_wp2_with (go_at_call 92; refine (cmp92_any _ _ _).mono ?_; rintro e w' ⟨rfl, rfl⟩)
    go_ret
    exact ⟨ret_i HC.out, 0, rfl⟩

set_option maxRecDepth 100000 in
set_option maxHeartbeats 1000000 in
theorem refCompare_any (w : World) (a1 a2 : Option Addr) (cap1 cap2 n m : Nat) (h1 : Row w a1 (dg 10 n)) (h2 : Row w a2 (dg 10 m)) (b1 : (dg 10 n).length ≤ 1000000) (b2 : (dg 10 m).length ≤ 1000000) :
    Calls Tryd.prog 18 #[.slice a1 (dg 10 n).length cap1, .slice a2 (dg 10 m).length cap2] w fun e w' => e = .returned (.int .i64 (cmp3 (n : Int) (m : Int))) ∧ ∃ k, w' = w.drewN k := by
  have K1 : Hid (∀ i (hl : i < (dg 10 n).length) (hr : i < (dg 10 m).length), (dg 10 n).drop (i + 1) = (dg 10 m).drop (i + 1) → (dg 10 n)[i] < (dg 10 m)[i] → cmp3 (n : Int) (m : Int) = -1) := fun i => cmp_at_lt (by omega)
  have K2 : Hid (∀ i (hl : i < (dg 10 n).length) (hr : i < (dg 10 m).length), (dg 10 n).drop (i + 1) = (dg 10 m).drop (i + 1) → (dg 10 m)[i] < (dg 10 n)[i] → cmp3 (n : Int) (m : Int) = 1) := fun i => cmp_at_gt (by omega)
  have K3 : Hid ((dg 10 n).drop 0 = (dg 10 m).drop 0 → cmp3 (n : Int) (m : Int) = 0) := cmp_same (by omega)
  have K4 : Hid ((dg 10 n).length ≠ (dg 10 m).length → cmp3 ((dg 10 n).length : Int) ((dg 10 m).length : Int) = cmp3 (n : Int) (m : Int)) := cmp_len (by omega)
  generalize cmp3 (n : Int) (m : Int) = c at *
  generalize dg 10 n = l1 at *
  generalize dg 10 m = l2 at *
  have H1 : Hid (Row w a1 l1) := h1
  have H2 : Hid (Row w a2 l2) := h2
  clear h1 h2
  go_enter Tryd.func18, Tryd.ntmps18
  by_cases hlen : l1.length = l2.length
  · rw [hlen]
    go_wp2_with fail
    go_loopg [5] (l1.length + 1) (fun gk v5 wr => ∃ i : Nat, i + 1 = gk ∧ i ≤ l1.length ∧ v5 = .int .i64 ((i : Int) - 1) ∧ l1.drop i = l2.drop i ∧ ∃ k, wr = w.drewN k)
    case atStart => exact ⟨l1.length, rfl, Nat.le_refl _, by rw [hlen], by rw [List.drop_length, hlen, List.drop_length], 0, rfl⟩
    case round =>
      obtain ⟨i, hi, hil, rfl, hd, k, hwr⟩ := hrel
      have HW : Hid (∃ k, wr = w.drewN k) := ⟨k, hwr⟩
      have HD : Hid (l1.drop i = l2.drop i) := hd
      clear hd
      by_cases h0 : 0 < i
      · obtain ⟨b1, o1, rfl, c1⟩ := H1.out (i - 1) (by omega)
        obtain ⟨b2, o2, rfl, c2⟩ := H2.out (i - 1) (by omega)
        have d1 : wr.cell? ⟨b1, o1 + (i - 1), none⟩ = some (I l1[i - 1]) := by rw [hwr]; exact c1
        have d2 : wr.cell? ⟨b2, o2 + (i - 1), none⟩ = some (I l2[i - 1]) := by rw [hwr]; exact c2
        clear c1 c2 hwr
        have HE : Hid (∀ x, x = i - 1 → l1.drop (x + 1) = l2.drop (x + 1)) := fun x hx => by have := HD.out; rw [show x + 1 = i by omega]; exact this
        have t0 : ((i : Int) - 1).toNat = i - 1 := by omega
        have t1 : (0 : Int) ≤ (i : Int) - 1 := by omega
        have t2 : (i : Int) - 1 < (l2.length : Int) := by omega
        have q1 : i - 1 < l1.length := by omega
        have q2 : i - 1 < l2.length := by omega
        have G1 : Hid (l1[i - 1]'q1 < l2[i - 1]'q2 → c = -1) := K1.out (i - 1) q1 q2 (HE.out _ rfl)
        have G2 : Hid (l2[i - 1]'q2 < l1[i - 1]'q1 → c = 1) := K2.out (i - 1) q1 q2 (HE.out _ rfl)
        have G3 : Hid (l1[i - 1]'q1 = l2[i - 1]'q2 → l1.drop (i - 1) = l2.drop (i - 1)) := drop_same_step (l := l1) (r := l2) (i := i - 1) q1 q2 (HE.out _ rfl)
        clear K1 K2 K3 K4 HE HD H1 H2
        generalize l1[i - 1] = x at *
        generalize l2[i - 1] = y at *
        by_cases hxy : x = y
        · subst hxy
          go_wp2_with fail
          go_quiet (fail)
          have d3 : (wr.drewN nq).cell? ⟨b1, o1 + (i - 1), none⟩ = some (I x) := d1
          have d4 : (wr.drewN nq).cell? ⟨b2, o2 + (i - 1), none⟩ = some (I x) := d2
          have HW2 : Hid (∃ k, wr.drewN nq = w.drewN k) := drewN_ex HW.out nq
          clear d1 d2 HW
          generalize wr.drewN nq = wq at *
          go_wp2_with fail
          go_quiet (fail)
          go_wp2_with fail
          go_roundg (gk - 1)
          case measure => omega
          case rel => exact ⟨i - 1, by omega, by omega, by go_num, G3.out (by first | trivial | rfl), drewN_ex HW2.out nq⟩
        · rcases Nat.lt_or_gt_of_ne hxy with h | h
          · have hne : (x : Int) < (y : Int) := by omega
            have hc := G1.out h
            go_wp2_with fail
            go_quiet (fail)
            go_wp2_with fail
            go_ret
            exact ⟨ret_i hc.symm, drewN_ex HW.out nq⟩
          · have hne : ¬ (x : Int) < (y : Int) := by omega
            have hgt : (y : Int) < (x : Int) := by omega
            have hc := G2.out h
            go_wp2_with fail
            go_quiet (fail)
            have d3 : (wr.drewN nq).cell? ⟨b1, o1 + (i - 1), none⟩ = some (I x) := d1
            have d4 : (wr.drewN nq).cell? ⟨b2, o2 + (i - 1), none⟩ = some (I y) := d2
            have HW2 : Hid (∃ k, wr.drewN nq = w.drewN k) := drewN_ex HW.out nq
            clear d1 d2 HW
            generalize wr.drewN nq = wq at *
            go_wp2_with fail
            go_quiet (fail)
            go_wp2_with fail
            go_ret
            exact ⟨ret_i hc.symm, drewN_ex HW2.out nq⟩
      · obtain rfl : i = 0 := by omega
        have hc := K3.out HD.out
        clear hwr
        go_wp2_with fail
        go_ret
        exact ⟨ret_i hc.symm, HW.out⟩
  · have hne : ((l1.length : Int) != (l2.length : Int)) = true := by simp; omega
    have hc := K4.out hlen
    rcases Nat.lt_or_gt_of_ne hlen with h | h
    · have hlt : (l1.length : Int) < (l2.length : Int) := by omega
      rw [cmp3_lt hlt] at hc
      have HC : Hid (-1 = c) := hc
      clear hc
      go_wp2_with fail
      go_ret
      exact ⟨ret_i HC.out, 0, rfl⟩
    · have hlt : ¬ (l1.length : Int) < (l2.length : Int) := by omega
      rw [cmp3_gt (by omega)] at hc
      have HC : Hid (1 = c) := hc
      clear hc
      go_wp2_with fail
      go_ret
      exact ⟨ret_i HC.out, 0, rfl⟩
end Go.Proofs.YtlgcnjinmcgacaaDoor
