/- Ways: the program's, on. -/
import Derived.Test.YtcdmndcpjememaaPf
set_option linter.unusedSimpArgs false
set_option linter.unusedVariables false
set_option maxRecDepth 100000
namespace Go.Proofs.Ytcdmndcpjememaa
open Go.RowKit Go.Deep Go.PlainAid

set_option maxHeartbeats 4000000 in
theorem paths17 {w : World} {a : Option Addr} {n c : Nat} {P : Mt} (hn : n ≤ 12) (hs : SQ w a n P) (hp : ∀ i j, i < n → j < n → 0 ≤ P i j) :
    Calls Try.prog 17 #[.slice a n c] w fun e w' => e = .returned (.slice (some ⟨w.heap.size, 0, none⟩) n n) ∧ (∃ M, Str P n M ∧ MX w' w.heap.size n M) ∧ Below w.heap.size w w' := by
  have HB : Hid (Calls Try.prog 30 #[.slice a n c] w fun e w' => e = .returned (.slice (some ⟨w.heap.size, 0, none⟩) n n) ∧ MX w' w.heap.size n (btM P) ∧ Below w.heap.size w w') := beaten30 hn hs
  have I0 : Hid (Inv P n 0 0 0 (btM P)) := btM_inv hp
  clear hs hp
  go_enter Try.func17, Try.ntmps17
  go_upto_region 2 with (go_at_call 30; refine (HB.out).mono ?_; rintro e U ⟨rfl, hM, hB⟩; have M0 : Hid (MX U w.heap.size n (btM P)) := hM; have B0 : Hid (Below w.heap.size w U) := hB; clear hM hB HB)
  obtain ⟨b, hb⟩ : ∃ b, b = w.heap.size := ⟨_, rfl⟩
  rw [← hb]
  have Hb : Hid (b = w.heap.size) := hb
  rw [← hb] at M0
  clear hb
  go_wp2_with fail
  go_loopg [4, 5, 6, 7, 12] n (fun gk v4 v5 v6 v7 v12 wr => ∃ (k : Nat) (M : Mt), k + gk = n ∧ v12 = .int .i64 (k : Int) ∧ Inv P n k 0 0 M ∧ MX wr b n M ∧ Below w.heap.size w wr)
  case atStart => exact ⟨0, btM P, by omega, rfl, I0.out, M0.out, B0.out⟩
  case round =>
    obtain ⟨k, M, hkg, rfl, hI, hM, hB⟩ := hrel
    have I1 : Hid (Inv P n k 0 0 M) := hI
    have M1 : Hid (MX wr b n M) := hM
    have B1 : Hid (Below w.heap.size w wr) := hB
    clear hI hM hB M0 B0 I0
    by_cases hk : k < n
    · have kl : (k : Int) < (n : Int) := by omega
      obtain ⟨G1, rfl⟩ : ∃ G, G = gk := ⟨gk, rfl⟩
      go_wp2_with fail
      go_loopg [5, 6, 7, 17] n (fun gk2 v5 v6 v7 v17 wr2 => ∃ (i : Nat) (M : Mt), i + gk2 = n ∧ v17 = .int .i64 (i : Int) ∧ Inv P n k i 0 M ∧ MX wr2 b n M ∧ Below w.heap.size w wr2)
      case atStart => exact ⟨0, M, by omega, rfl, I1.out, M1.out, B1.out⟩
      case round =>
        clear I1 M1 B1
        obtain ⟨i, M2, hig, rfl, hI, hM, hB⟩ := hrel
        have I2 : Hid (Inv P n k i 0 M2) := hI
        have K2 : Hid (MX wr b n M2) := hM
        have B2 : Hid (Below w.heap.size w wr) := hB
        clear hI hM hB
        by_cases hi : i < n
        · have il : (i : Int) < (n : Int) := by omega
          have q0 := K2.out.hdr hi
          obtain ⟨G2, rfl⟩ : ∃ G, G = gk := ⟨gk, rfl⟩
          go_wp2_with fail
          clear q0
          go_loopg [7, 24] n (fun gk3 v7 v24 wr3 => ∃ (j : Nat) (M : Mt), j + gk3 = n ∧ v24 = .int .i64 (j : Int) ∧ Inv P n k i j M ∧ MX wr3 b n M ∧ Below w.heap.size w wr3)
          case atStart => exact ⟨0, M2, by omega, rfl, I2.out, K2.out, B2.out⟩
          case round =>
            clear I2 K2 B2
            obtain ⟨j, M3, hjg, rfl, hI, hM, hB⟩ := hrel
            have I3 : Hid (Inv P n k i j M3) := hI
            have K3 : Hid (MX wr b n M3) := hM
            have B3 : Hid (Below w.heap.size w wr) := hB
            clear hI hM hB
            by_cases hj : j < n
            · have jl : (j : Int) < (n : Int) := by omega
              by_cases hij : i = j
              · have I4 : Hid (Inv P n k i (j + 1) M3) := I3.out.skip hij
                have eb : ((i : Int) != (j : Int)) = false := by simp [hij]
                clear hij
                go_wp2_with fail
                go_roundg (gk - 1)
                case measure => omega
                case rel => exact ⟨j + 1, M3, by omega, by go_num, I4.out, K3.out, B3.out⟩
              · have eb : ((i : Int) != (j : Int)) = true := by simp; omega
                have I4 : Hid (Inv P n k i (j + 1) (upd M3 i j (fwV M3 k i j))) := I3.out.step hk hi hj hij
                have K4 : Hid (∀ v : Int, v = fwV M3 k i j → MX (wr.setCell ⟨b + 1 + i, j, none⟩ (.int .i64 v)).drew b n (upd M3 i j (fwV M3 k i j))) := fun v hv => by
                  have q := K3.out.set hi hj v
                  rw [hv] at q ⊢
                  exact ⟨q.top, q.row⟩
                have B4 : Hid (∀ v : Int, Below w.heap.size w (wr.setCell ⟨b + 1 + i, j, none⟩ (.int .i64 v)).drew) := fun v => (B3.out.setCell (by have := Hb.out; show _ ≤ b + 1 + i; omega) _).drew
                have k1 : wr.drew.cell? ⟨b + 1 + i, j, none⟩ = some (.int .i64 (M3 i j)) := K3.out.at hi hj
                have k2 : wr.drew.cell? ⟨b + 1 + i, k, none⟩ = some (.int .i64 (M3 i k)) := K3.out.at hi hk
                have k3 : wr.drew.cell? ⟨b, k, none⟩ = some (.slice (some ⟨b + 1 + k, 0, none⟩) n n) := K3.out.hdr hk
                have k4 : wr.drew.cell? ⟨b + 1 + k, j, none⟩ = some (.int .i64 (M3 k j)) := K3.out.at hk hj
                have k5 : wr.drew.frozen? ⟨b + 1 + i, j, none⟩ = false := K3.out.frz hi j
                unfold fwV at I4 K4
                clear hij
                go_wp2_with fail
                generalize M3 i j = xij at *
                generalize M3 i k = xik at *
                generalize M3 k j = xkj at *
                refine wp_region_still_tail 20 mixed (by kernel_rfl) ?_
                simp only [List.take_succ_cons, List.take_zero, List.drop_succ_cons, List.drop_zero]
                show wpStill _ _ wr.drew _ _ _
                repeat still_step
                try refine wpStill_nil ?_
                go_wp2_with fail
                all_goals
                  go_roundg (gk - 1)
                  case measure => omega
                  case rel => exact ⟨j + 1, _, by omega, by go_num, I4.out, K4.out _ (by omega), B4.out _⟩
            · have jl : ¬ (j : Int) < (n : Int) := by omega
              have e : j = n := by omega
              subst e
              have I4 : Hid (Inv P j k (i + 1) 0 M3) := I3.out.row
              go_wp2_with fail
              go_roundg (G2 - 1)
              case measure => omega
              case rel => exact ⟨i + 1, M3, by omega, by go_num, I4.out, K3.out, B3.out⟩
        · have il : ¬ (i : Int) < (n : Int) := by omega
          have e : i = n := by omega
          subst e
          have I4 : Hid (Inv P i (k + 1) 0 0 M2) := I2.out.via
          go_wp2_with fail
          go_roundg (G1 - 1)
          case measure => omega
          case rel => exact ⟨k + 1, M2, by omega, by go_num, I4.out, K2.out, B2.out⟩
    · have kl : ¬ (k : Int) < (n : Int) := by omega
      have e : k = n := by omega
      subst e
      go_wp2_with fail
      go_ret
      exact ⟨by rw [Hb.out]; rfl, ⟨M, I1.out.str, by rw [← Hb.out]; exact M1.out⟩, B1.out⟩
end Go.Proofs.Ytcdmndcpjememaa
