/- The reference's Compare. -/
import Derived.Test.YtohpbclofcflaaaGreatAid
set_option linter.unusedSimpArgs false
set_option linter.unusedVariables false
namespace Go.Proofs.YtohpbclofcflaaaGreat
open Go.RowKit Go.Deep Go.PlainAid

set_option maxRecDepth 100000 in
set_option maxHeartbeats 2000000 in
theorem compare_any (w : World) (a1 a2 : Option Addr) (cap1 cap2 n m : Nat) (h1 : Row w a1 (dg 65536 n)) (h2 : Row w a2 (dg 65536 m)) (b1 : (dg 65536 n).length ≤ 1000000) (b2 : (dg 65536 m).length ≤ 1000000) :
    Calls Tryz.prog 41 #[.slice a1 (dg 65536 n).length cap1, .slice a2 (dg 65536 m).length cap2] w fun e w' => e = .returned (.int .i64 (cmp3 (n : Int) (m : Int))) ∧ ∃ k, w' = w.drewN k := by
  have K1 : Hid (∀ i (hl : i < (dg 65536 n).length) (hr : i < (dg 65536 m).length), (dg 65536 n).drop (i + 1) = (dg 65536 m).drop (i + 1) → (dg 65536 n)[i] < (dg 65536 m)[i] → cmp3 (n : Int) (m : Int) = -1) := fun i => cmp_at_lt (by omega)
  have K2 : Hid (∀ i (hl : i < (dg 65536 n).length) (hr : i < (dg 65536 m).length), (dg 65536 n).drop (i + 1) = (dg 65536 m).drop (i + 1) → (dg 65536 m)[i] < (dg 65536 n)[i] → cmp3 (n : Int) (m : Int) = 1) := fun i => cmp_at_gt (by omega)
  have K3 : Hid ((dg 65536 n).drop 0 = (dg 65536 m).drop 0 → cmp3 (n : Int) (m : Int) = 0) := cmp_same (by omega)
  have K4 : Hid ((dg 65536 n).length ≠ (dg 65536 m).length → cmp3 ((dg 65536 n).length : Int) ((dg 65536 m).length : Int) = cmp3 (n : Int) (m : Int)) := cmp_len (by omega)
  generalize cmp3 (n : Int) (m : Int) = c at *
  generalize dg 65536 n = l1 at *
  generalize dg 65536 m = l2 at *
  have H1 : Hid (Row w a1 l1) := h1
  have H2 : Hid (Row w a2 l2) := h2
  clear h1 h2
  go_enter Tryz.func41, Tryz.ntmps41
  by_cases hlen : l1.length = l2.length
  · rw [hlen]
    go_wp2_with fail
    go_loopg [5] (l1.length + 1) (fun gk v5 wr => ∃ i : Nat, i + 1 = gk ∧ i ≤ l1.length ∧ v5 = .int .i64 ((i : Int) - 1) ∧ l1.drop i = l2.drop i ∧ ∃ k, wr = w.drewN k)
    case atStart => exact ⟨l1.length, rfl, Nat.le_refl _, by rw [hlen], by rw [List.drop_length, hlen, List.drop_length], 0, rfl⟩
    case round =>
      obtain ⟨i, hi, hil, rfl, hd, k, hwr⟩ := hrel
      have HW : Hid (∃ k, wr = w.drewN k) := ⟨k, hwr⟩
      have HD : Hid (l1.drop i = l2.drop i) := hd
      clear hd
      by_cases h0 : 0 < i
      · obtain ⟨b1, o1, rfl, c1⟩ := H1.out (i - 1) (by omega)
        obtain ⟨b2, o2, rfl, c2⟩ := H2.out (i - 1) (by omega)
        have d1 : wr.cell? ⟨b1, o1 + (i - 1), none⟩ = some (I l1[i - 1]) := by rw [hwr]; exact c1
        have d2 : wr.cell? ⟨b2, o2 + (i - 1), none⟩ = some (I l2[i - 1]) := by rw [hwr]; exact c2
        clear c1 c2 hwr
        have HE : Hid (∀ x, x = i - 1 → l1.drop (x + 1) = l2.drop (x + 1)) := fun x hx => by have := HD.out; rw [show x + 1 = i by omega]; exact this
        have t0 : ((i : Int) - 1).toNat = i - 1 := by omega
        have t1 : (0 : Int) ≤ (i : Int) - 1 := by omega
        have t2 : (i : Int) - 1 < (l2.length : Int) := by omega
        have q1 : i - 1 < l1.length := by omega
        have q2 : i - 1 < l2.length := by omega
        have G1 : Hid (l1[i - 1]'q1 < l2[i - 1]'q2 → c = -1) := K1.out (i - 1) q1 q2 (HE.out _ rfl)
        have G2 : Hid (l2[i - 1]'q2 < l1[i - 1]'q1 → c = 1) := K2.out (i - 1) q1 q2 (HE.out _ rfl)
        have G3 : Hid (l1[i - 1]'q1 = l2[i - 1]'q2 → l1.drop (i - 1) = l2.drop (i - 1)) := drop_same_step (l := l1) (r := l2) (i := i - 1) q1 q2 (HE.out _ rfl)
        clear K1 K2 K3 K4 HE HD H1 H2
        generalize l1[i - 1] = x at *
        generalize l2[i - 1] = y at *
        by_cases hxy : x = y
        · subst hxy
          go_wp2_with fail
          go_quiet (fail)
          have HW2 : Hid (∃ k, wr.drewN nq = w.drewN k) := drewN_ex HW.out nq
          clear d1 d2 HW
          generalize wr.drewN nq = wq at *
          go_wp2_with fail
          go_roundg (gk - 1)
          case measure => omega
          case rel => exact ⟨i - 1, by omega, by omega, by go_num, G3.out (by first | trivial | rfl), HW2.out⟩
        · have hnb : ((x : Int) != (y : Int)) = true := bne_iff_ne.2 (by omega)
          go_wp2_with fail
          go_quiet (fail)
          have d3 : (wr.drewN nq).cell? ⟨b1, o1 + (i - 1), none⟩ = some (I x) := d1
          have d4 : (wr.drewN nq).cell? ⟨b2, o2 + (i - 1), none⟩ = some (I y) := d2
          have HW2 : Hid (∃ k, wr.drewN nq = w.drewN k) := drewN_ex HW.out nq
          clear d1 d2 HW
          generalize wr.drewN nq = wq at *
          rcases Nat.lt_or_gt_of_ne hxy with h | h
          · have hne : (x : Int) < (y : Int) := by omega
            have hc := G1.out h
            go_wp2_with fail
            go_quiet (fail)
            go_wp2_with fail
            go_ret
            exact ⟨ret_i hc.symm, drewN_ex HW2.out nq⟩
          · have hne : ¬ (x : Int) < (y : Int) := by omega
            have hc := G2.out h
            go_wp2_with fail
            go_quiet (fail)
            go_wp2_with fail
            go_ret
            exact ⟨ret_i hc.symm, drewN_ex HW2.out nq⟩
      · obtain rfl : i = 0 := by omega
        have hc := K3.out HD.out
        clear hwr
        go_wp2_with fail
        go_ret
        exact ⟨ret_i hc.symm, HW.out⟩
  · have hne : ((l1.length : Int) != (l2.length : Int)) = true := by simp; omega
    have hc := K4.out hlen
    rcases Nat.lt_or_gt_of_ne hlen with h | h
    · have hlt : (l1.length : Int) < (l2.length : Int) := by omega
      rw [cmp3_lt hlt] at hc
      have HC : Hid (-1 = c) := hc
      clear hc
      go_wp2_with fail
      go_ret
      exact ⟨ret_i HC.out, 0, rfl⟩
    · have hlt : ¬ (l1.length : Int) < (l2.length : Int) := by omega
      rw [cmp3_gt (by omega)] at hc
      have HC : Hid (1 = c) := hc
      clear hc
      go_wp2_with fail
      go_ret
      exact ⟨ret_i HC.out, 0, rfl⟩
theorem compareV {W : World} {n m : Nat} {v1 v2 : Value} (h1 : NumV W 65536 n v1) (h2 : NumV W 65536 m v2) (b1 : (dg 65536 n).length ≤ 1000000) (b2 : (dg 65536 m).length ≤ 1000000) :
    Calls Tryz.prog 41 #[v1, v2] W fun e w' => e = .returned (.int .i64 (cmp3 (n : Int) (m : Int))) ∧ Below W.heap.size W w' := by
  obtain ⟨a1, c1, rfl, k1, r1⟩ := h1
  obtain ⟨a2, c2, rfl, k2, r2⟩ := h2
  refine (compare_any W a1 a2 c1 c2 n m r1 r2 b1 b2).mono ?_
  rintro e w' ⟨rfl, k, rfl⟩
  exact ⟨rfl, ⟨rfl, rfl, rfl, Nat.le_refl _, fun _ _ => rfl⟩⟩
end Go.Proofs.YtohpbclofcflaaaGreat
