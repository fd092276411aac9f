/- The law MixFew, walked. -/
import Derived.Test.YtelfcapjegncfaaFa
set_option linter.unusedSimpArgs false
set_option linter.unusedVariables false
set_option maxRecDepth 100000
namespace Go.Proofs.Ytelfcapjegncfaa
open Go.RowKit Go.Deep Go.PlainAid

theorem gates_at {n : Nat} {i : Nat} (h : i < (net n).length) : (net n)[i].1 < (net n)[i].2 ∧ (net n)[i].2 < n := ⟨net_inc _ (List.getElem_mem h), (net_lt _ (List.getElem_mem h)).2⟩
theorem pow_le_256 {k i : Nat} (hi : i ≤ 256) (h : ∀ q < k, 2 ^ q < i) : k ≤ 8 := by
  by_cases hk : k ≤ 8
  · exact hk
  · have := h 8 (by omega)
    omega
theorem pow_wrap {a : Nat} (h : 2 ^ a ≤ 256) : wrap64 (2 ^ a) = ((2 ^ a : Nat) : Int) := by
  have e : ((2 : Int) ^ a) = ((2 ^ a : Nat) : Int) := by simp
  rw [e]
  clear e
  generalize (2 ^ a : Nat) = p at *
  unfold wrap64
  omega
theorem few_no (w : World) (z : Int) (h : z < 1 ∨ 256 < z) : Calls Try.prog 5 #[.int .i64 z] w fun e w' => e = .returned (.bool true) ∧ Below w.heap.size w w' := by
  have H6 : Hid (∀ V, Calls Try.prog 6 #[.int .i64 z] V fun e w' => e = .returned (.tuple #[.slice none 0 0, .int .i64 4]) ∧ w' = V) := fun V => plan6_no V z h
  by_cases h1 : z < 1
  · clear h
    go_enter Try.func5, Try.ntmps5
    go_wp2_with (go_at_call 6; refine (H6.out _).mono ?_; rintro e ww ⟨rfl, hww⟩; obtain rfl := hww.symm; clear H6)
    go_ret
    exact ⟨rfl, Below.refl _ _⟩
  · have h2 : 256 < z := by omega
    clear h
    go_enter Try.func5, Try.ntmps5
    go_wp2_with (go_at_call 6; refine (H6.out _).mono ?_; rintro e ww ⟨rfl, hww⟩; obtain rfl := hww.symm; clear H6)
    go_ret
    exact ⟨rfl, Below.refl _ _⟩
set_option maxHeartbeats 2000000 in
theorem few_yes (w : World) (n : Nat) (h1 : 1 ≤ n) (hn : n ≤ 256) : Calls Try.prog 5 #[.int .i64 (n : Int)] w fun e w' => e = .returned (.bool true) ∧ Below w.heap.size w w' := by
  have H6 : Hid (∀ V, Calls Try.prog 6 #[.int .i64 (n : Int)] V fun e w' => (∃ v, e = .returned (.tuple #[v, .int .i64 0]) ∧ w'.ownsRow V.heap.size 28 2 v (net n).length (gvs (net n))) ∧ Below V.heap.size V w') := fun V => plan6_yes V n h1 hn
  have HW : Hid ((net n).length = wt n) := net_wt hn
  have HA : Hid (∀ i (h : i < (net n).length), (net n)[i].1 < (net n)[i].2 ∧ (net n)[i].2 < n) := fun i h => gates_at h
  have hnl : (net n).length ≤ 4096 := net_le hn
  go_enter Try.func5, Try.ntmps5
  go_wp2_with (go_at_call 6; refine (H6.out _).mono ?_; rintro e w1 ⟨⟨v, rfl, hO⟩, hB⟩; obtain ⟨a, c, rfl, hV, _⟩ := own_vl hO; have V1 : Hid (VL w1 a (gvs (net n))) := hV; have B1 : Hid (Below w.heap.size w w1) := hB; clear hO hB hV H6)
  go_loopg [5, 6, 7] n (fun gk v5 v6 v7 wr => ∃ i : Nat, 2 ≤ i ∧ i + gk = n + 2 ∧ i ≤ n + 1 ∧ v6 = .int .i64 (i : Int) ∧ v5 = .int .i64 (wt (i - 1) : Nat) ∧ wr = w1)
  case atStart => exact ⟨2, by omega, by omega, by omega, rfl, rfl, rfl⟩
  case round =>
    obtain ⟨i, hi2, hig, hin, rfl, rfl, rfl⟩ := hrel
    obtain ⟨t, ht⟩ : ∃ t, t = wt (i - 1) := ⟨_, rfl⟩
    have ht9 : t ≤ 4096 := by rw [ht]; exact wt_le _ (by omega)
    rw [← ht]
    by_cases hi : i ≤ n
    · have il : (i : Int) ≤ (n : Int) := by omega
      have HT : Hid (wt i = t + lg i) := by
        show _ = _
        rw [ht]
        obtain ⟨q, rfl⟩ : ∃ q, i = q + 1 := ⟨i - 1, by omega⟩
        show wt q + _ = _
        rw [if_neg (by omega)]
        rfl
      clear ht
      go_wp2_with fail
      obtain ⟨G, hG⟩ : ∃ G, G = gk := ⟨gk, rfl⟩
      obtain ⟨W, rfl⟩ : ∃ W, W = wr := ⟨wr, rfl⟩
      have HG : Hid (G = gk) := hG
      clear hG
      go_loopg [7] 9 (fun gk v7 wq => ∃ k : Nat, k + gk = 9 ∧ v7 = .int .i64 (k : Int) ∧ (∀ q < k, 2 ^ q < i) ∧ wq = W)
      case atStart => exact ⟨0, by omega, rfl, fun q hq => by omega, rfl⟩
      case round =>
        obtain ⟨k, hkg, rfl, hq, rfl⟩ := hrel
        have HQ : Hid (∀ q < k, 2 ^ q < i) := hq
        have hk8 : k ≤ 8 := pow_le_256 (by omega) hq
        clear hq
        have hp : 2 ^ k ≤ 256 := by
          have : 2 ^ k ≤ 2 ^ 8 := Nat.pow_le_pow_right (by omega) hk8
          omega
        by_cases hk : 2 ^ k < i
        · have kl : wrap64 (2 ^ k) < (i : Int) := by rw [pow_wrap hp]; omega
          have HQ2 : Hid (∀ q < k + 1, 2 ^ q < i) := fun q hq => by
            by_cases e : q = k
            · rw [e]; exact hk
            · exact HQ.out q (by omega)
          have HK9 : Hid (k < 8 ∨ k = 8) := by show _ ∨ _; omega
          clear hk hp
          go_wp2_with fail
          go_roundg (gk - 1)
          case measure => omega
          case rel => exact ⟨k + 1, by omega, by go_num, HQ2.out, rfl⟩
        · have kl : ¬ wrap64 (2 ^ k) < (i : Int) := by rw [pow_wrap hp]; omega
          have HL : Hid (lg i = k) := lg_is i (by omega) k (by omega) (by omega) HQ.out
          obtain ⟨i1, hi1⟩ : ∃ i1, i1 = i + 1 := ⟨_, rfl⟩
          have HI1 : Hid (i1 = i + 1) := hi1
          have k1 : (i : Int) + 1 = (i1 : Int) := by omega
          obtain ⟨t1, ht1⟩ : ∃ t1, t1 = t + k := ⟨_, rfl⟩
          have HT1 : Hid (t1 = wt i) := by show _ = _; rw [HT.out, HL.out, ht1]
          have k2 : (t : Int) + (k : Int) = (t1 : Int) := by omega
          have hi19 : i1 ≤ 1000 := by omega
          have ht19 : t1 ≤ 10000 := by omega
          clear hk hp ht1 hi1
          go_wp2_with fail
          go_roundg (G - 1)
          case measure => have := HG.out; omega
          case rel => exact ⟨i1, by have := HI1.out; omega, by have := HI1.out; have := HG.out; omega, by have := HI1.out; omega, rfl, by rw [HT1.out, HI1.out]; rfl, rfl⟩
    · have il : ¬ (i : Int) ≤ (n : Int) := by omega
      have HE : Hid (t = (net n).length) := by show _ = _; rw [HW.out, ht]; congr 1; omega
      clear ht hi hi2 hig hin
      go_wp2_with fail
      obtain ⟨W, rfl⟩ : ∃ W, W = wr := ⟨wr, rfl⟩
      go_loopg [9, 43] (net n).length (fun gk v9 v43 wq => ∃ i : Nat, i + gk = (net n).length ∧ v43 = .int .i64 (i : Int) ∧ Below W.heap.size W wq)
      case atStart => exact ⟨0, by omega, rfl, Below.refl _ _⟩
      case round =>
        obtain ⟨i, hig, rfl, hB⟩ := hrel
        have B : Hid (Below W.heap.size W wr) := hB
        clear hB
        by_cases hi : i < (net n).length
        · have il : (i : Int) < ((net n).length : Int) := by omega
          obtain ⟨b, o, rfl, q1, q2⟩ := (V1.out.of_below B.out).gate i hi
          obtain ⟨g1, g2⟩ := HA.out i hi
          generalize (net n)[i] = g at *
          obtain ⟨x, y⟩ := g
          dsimp only at q1 q2 g1 g2
          have e1 : ¬ (x : Int) < 0 := by omega
          have e2 : ¬ (y : Int) ≤ (x : Int) := by omega
          have e3 : ¬ (n : Int) ≤ (y : Int) := by omega
          have B2 : Hid (Below W.heap.size W (wr.alloc (.cells #[.int .i64 (x : Int), .int .i64 (y : Int)] 28))) := B.out.alloc B.out.size _
          clear g1 g2
          go_wp2_with fail
          go_roundg (gk - 1)
          case measure => omega
          case rel => exact ⟨i + 1, by omega, by go_num, B2.out⟩
        · have il : ¬ (i : Int) < ((net n).length : Int) := by omega
          have e4 : (((net n).length : Int) == (t : Int)) = true := by have := HE.out; simp; omega
          go_wp2_with fail
          go_ret
          exact ⟨rfl, B1.out.trans (B.out.mono B1.out.size)⟩
theorem mixFew_walk (w : World) (z : Int) : Calls Try.prog 5 #[.int .i64 z] w fun e w' => e = .returned (.bool true) ∧ Below w.heap.size w w' := by
  by_cases h : z < 1 ∨ 256 < z
  · exact few_no w z h
  · obtain ⟨n, rfl⟩ := Int.eq_ofNat_of_zero_le (show 0 ≤ z by omega)
    exact few_yes w n (by omega) (by omega)
end Go.Proofs.Ytelfcapjegncfaa
