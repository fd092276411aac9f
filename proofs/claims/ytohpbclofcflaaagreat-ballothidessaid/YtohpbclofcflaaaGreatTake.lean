/- The reference's take. -/
import Derived.Test.YtohpbclofcflaaaGreatMd
import Derived.Test.YtohpbclofcflaaaGreatCompare
set_option linter.unusedSimpArgs false
set_option linter.unusedVariables false
namespace Go.Proofs.YtohpbclofcflaaaGreat
open Go.RowKit Go.Deep Go.PlainAid

theorem laid_set (p : List Nat) (L i Y : Nat) (hp : p.length = i) (hi : i < L) : (zs (p ++ List.replicate (L - i) 0)).set i (.int .i64 (Y : Int)) = zs (p ++ [Y] ++ List.replicate (L - (i + 1)) 0) := by
  rw [zs_set _ i Y _ rfl]
  congr 1
  rw [List.set_append_right _ _ (by omega), show i - p.length = 0 by omega, show L - i = (L - (i + 1)) + 1 by omega, List.replicate_succ, List.set_cons_zero, List.append_assoc]
  rfl
/-- One digit. -/
theorem digit_off {y dn z : Nat} {D : Int} (hy : y < 65536) (hd : dn ≤ 65536) (hz : z ≤ 4294836225) (hD : D = (y : Int) - (dn : Int) - (z : Int)) :
    ∃ E Y : Nat, E ≤ 65536 ∧ Y < 65536 ∧ (y : Int) - (z : Int) - (dn : Int) = (Y : Int) - (E : Int) * 65536 ∧ (0 ≤ D → E = 0 ∧ D = (Y : Int)) ∧ (D < 0 → (65535 - D) / 65536 = (E : Int) ∧ D + (E : Int) * 65536 = (Y : Int)) := by
  by_cases h : 0 ≤ D
  · exact ⟨0, D.toNat, by omega, by omega, by omega, fun _ => ⟨rfl, by omega⟩, fun h => by omega⟩
  · exact ⟨((65535 - D) / 65536).toNat, (D + (65535 - D) / 65536 * 65536).toNat, by omega, by omega, by omega, fun h => by omega, fun _ => ⟨by omega, by omega⟩⟩
set_option maxRecDepth 100000 in
set_option maxHeartbeats 4000000 in
theorem take_any (w : World) (a1 a2 : Option Addr) (cap1 cap2 a m n k : Nat) (h1 : Row w a1 (dg 65536 a)) (h2 : Row w a2 (dg 65536 m)) (b1 : (dg 65536 a).length ≤ 1000000) (b2 : (dg 65536 m).length ≤ 1000000) (b3 : k ≤ 1000000) (n0 : 0 < n) (n9 : n < 65536) (hle : n * m * 65536 ^ k ≤ a) :
    Calls Tryz.prog 81 #[.slice a1 (dg 65536 a).length cap1, .slice a2 (dg 65536 m).length cap2, .int .i64 (n : Int), .int .i64 (k : Int)] w fun e w' => (∃ v, e = .returned v ∧ NumV w' 65536 (a - n * m * 65536 ^ k) v) ∧ Below w.heap.size w w' := by
  have HEnd : Hid (∀ p c, Puts 65536 (dg 65536 a) (moved k (dg 65536 m)) (-(n : Int)) (dg 65536 a).length p c → c ≤ 0 → vl 65536 p = a - n * m * 65536 ^ k) := fun p c h hc => puts_end h hle n0 hc
  have HD1 : Hid (∀ d ∈ dg 65536 a, d < 65536) := dg_mem b16 a
  have HD2 : Hid (∀ d ∈ dg 65536 m, d < 65536) := dg_mem b16 m
  clear hle
  generalize a - n * m * 65536 ^ k = R at *
  generalize dg 65536 a = l1 at *
  generalize dg 65536 m = l2 at *
  have H1 : Hid (Row w a1 l1) := h1
  have H2 : Hid (Row w a2 l2) := h2
  clear h1 h2
  obtain ⟨K, hK⟩ : ∃ K, K = l1.length := ⟨_, rfl⟩
  have HK : Hid (l1.length = K) := hK.symm
  rw [← hK] at b1 ⊢
  obtain ⟨K2, hK2⟩ : ∃ K, K = l2.length := ⟨_, rfl⟩
  have HK2 : Hid (l2.length = K2) := hK2.symm
  rw [← hK2] at b2 ⊢
  clear hK hK2
  have hmk := fun w => makeNat (K : Int) K rfl (by omega) w
  go_enter Tryz.func81, Tryz.ntmps81
  go_wp2_with fail
  have q1 : Hid (IHolds (w.alloc (.cells (zs (List.replicate K 0)).toArray 3)) w.heap.size 3 (zs (List.replicate K 0))) := IHolds.new w 3 _
  have q2 : Hid (Below w.heap.size w (w.alloc (.cells (zs (List.replicate K 0)).toArray 3))) := (Below.refl _ w).alloc (Nat.le_refl _) _
  clear hmk
  generalize w.alloc (.cells (zs (List.replicate K 0)).toArray 3) = W0 at *
  go_loopg [10, 11] K (fun gk v10 v11 wr => ∃ (i dn : Nat) (p : List Nat), i + gk = K ∧ v10 = .int .i64 (dn : Int) ∧ v11 = .int .i64 (i : Int) ∧ Puts 65536 l1 (moved k l2) (-(n : Int)) i p (-(dn : Int)) ∧ dn ≤ 65536 ∧ IHolds wr w.heap.size 3 (zs (p ++ List.replicate (K - i) 0)) ∧ Below w.heap.size w wr)
  case atStart => exact ⟨0, 0, [], by omega, rfl, rfl, Puts.zero _ _ _ _, by omega, by simpa using q1.out, q2.out⟩
  case round =>
    obtain ⟨i, dn, p, hi, rfl, rfl, hP, dn9, hI, hB⟩ := hrel
    clear q1 q2
    have HP : Hid (Puts 65536 l1 (moved k l2) (-(n : Int)) i p (-(dn : Int))) := hP
    have HI : Hid (IHolds wr w.heap.size 3 (zs (p ++ List.replicate (K - i) 0))) := hI
    have HB : Hid (Below w.heap.size w wr) := hB
    clear hP hI hB
    by_cases hlt : i < K
    · have il : (i : Int) < (K : Int) := by omega
      have hl1 : i < l1.length := by rw [HK.out]; exact hlt
      obtain ⟨g1, o1, rfl, c1⟩ := H1.out.of_below HB.out i hl1
      have y9 : l1[i] < 65536 := HD1.out _ (List.getElem_mem _)
      have hx9 := getD_lt (moved_mem (k := k) HD2.out) i
      have c3 : wr.cell? ⟨w.heap.size, i, none⟩ = some (I 0) := by
        have e := HI.out.at i (by rw [List.length_append, HP.out.len, List.length_replicate]; omega)
        rw [e]
        congr 2
        rw [List.getElem_append_right (by rw [HP.out.len]; omega), List.getElem_replicate]
      have f3 : wr.frozen? ⟨w.heap.size, i, none⟩ = false := HI.out.frozen _
      have hST : Hid (∀ (X Y E : Nat), X = (moved k l2).getD i 0 → Y < 65536 → (l1[i] : Int) - (n : Int) * (X : Int) - (dn : Int) = (Y : Int) - (E : Int) * 65536 → Puts 65536 l1 (moved k l2) (-(n : Int)) (i + 1) (p ++ [Y]) (-(E : Int))) := fun X Y E hX hY he => by
        refine HP.out.step b16 Y _ hY HD1.out (moved_mem HD2.out) ?_
        rw [← hX, List.getD_eq_getElem?_getD, List.getElem?_eq_getElem hl1, Option.getD_some, Int.neg_mul, Int.neg_mul]
        generalize (n : Int) * (X : Int) = z at *
        omega
      have hSI : Hid (∀ Y : Nat, IHolds (wr.setCell ⟨w.heap.size, i, none⟩ (.int .i64 (Y : Int))) w.heap.size 3 (zs (p ++ [Y] ++ List.replicate (K - (i + 1)) 0))) := fun Y => by
        have := HI.out.set i (.int .i64 (Y : Int))
        rw [laid_set p K i Y HP.out.len hlt] at this
        exact this
      have hSB : Hid (∀ Y : Nat, Below w.heap.size w (wr.setCell ⟨w.heap.size, i, none⟩ (.int .i64 (Y : Int)))) := fun Y => HB.out.setCell (Nat.le_refl _) _
      have kgl : Hid (∀ h : k ≤ i, (h2 : i - k < l2.length) → ∃ g o, a2 = some ⟨g, o, none⟩ ∧ wr.cell? ⟨g, o + (i - k), none⟩ = some (I l2[i - k])) := fun h h2 => H2.out.of_below HB.out (i - k) h2
      generalize l1[i] = y at *
      clear HP HI H1 HEnd HD1 hl1 HB
      obtain ⟨D1, hD1⟩ : ∃ D1 : Int, D1 = (y : Int) - (dn : Int) := ⟨_, rfl⟩
      have kd1 : (y : Int) - (dn : Int) = D1 := hD1.symm
      have d1a : -65536 ≤ D1 := by omega
      have d1b : D1 ≤ 65535 := by omega
      by_cases hk : i < k
      · have ha1 : ¬ (k : Int) ≤ (i : Int) := by omega
        have hX : (0 : Nat) = (moved k l2).getD i 0 := (moved_low hk).symm
        obtain ⟨E, Y, E9, Y9, he, hpos, hneg⟩ := digit_off (z := 0) (D := D1) y9 dn9 (by omega) (by omega)
        have HP2 : Hid (Puts 65536 l1 (moved k l2) (-(n : Int)) (i + 1) (p ++ [Y]) (-(E : Int))) := hST.out 0 Y E hX Y9 (by omega)
        have HI2 := hSI.out Y
        have HB2 := hSB.out Y
        by_cases h0 : 0 ≤ D1
        · obtain ⟨rfl, hY⟩ := hpos h0
          have hn0 : ¬ D1 < 0 := by omega
          clear he hneg hpos hST hSI hSB kgl hX hx9 hD1 HK HK2 H2 HD2
          subst hY
          go_wp2_with fail
          go_roundg (gk - 1)
          case measure => omega
          case rel => exact ⟨i + 1, 0, p ++ [Y], by omega, by go_num, by go_num, HP2.out, by omega, HI2, HB2⟩
        · obtain ⟨kE, kY⟩ := hneg (by omega)
          have hn0 : D1 < 0 := by omega
          obtain ⟨F, hF⟩ : ∃ F : Int, F = 65535 - D1 := ⟨_, rfl⟩
          have kF : 65535 - D1 = F := hF.symm
          have F9 : F ≤ 4300000000 := by omega
          have F0 : 0 ≤ F := by omega
          rw [kF] at kE
          have kE2 : F.tdiv 65536 = (E : Int) := by rw [Int.tdiv_eq_ediv_of_nonneg F0]; exact kE
          obtain ⟨G, hG⟩ : ∃ G : Nat, G = E * 65536 := ⟨_, rfl⟩
          have kG : (E : Int) * 65536 = (G : Int) := by omega
          have G9 : G ≤ 4294967296 := by omega
          rw [kG] at kY
          clear he hneg hpos hST hSI hSB kgl hX hx9 hF hG hD1 HK HK2 H2 HD2
          go_wp2_with fail
          go_roundg (gk - 1)
          case measure => omega
          case rel => exact ⟨i + 1, E, p ++ [Y], by omega, by go_num, by go_num, HP2.out, E9, HI2, HB2⟩
      · have ha1 : (k : Int) ≤ (i : Int) := by omega
        obtain ⟨q, hq⟩ : ∃ q, q = i - k := ⟨_, rfl⟩
        have kq : (i : Int) - (k : Int) = (q : Int) := by omega
        have q9 : q ≤ 1000000 := by omega
        by_cases hql : q < K2
        · have hq1 : (q : Int) < (K2 : Int) := by omega
          have hq2 : i - k < l2.length := by rw [HK2.out, ← hq]; exact hql
          obtain ⟨g2, o2, rfl, c2⟩ := kgl.out (by omega) hq2
          have hX : l2[i - k] = (moved k l2).getD i 0 := (moved_in (by omega) hq2).symm
          rw [← hX] at hx9
          generalize l2[i - k] = x at *
          rw [← hq] at c2
          have gm : n * x ≤ 4294836225 := Nat.mul_le_mul (show n ≤ 65535 by omega) (show x ≤ 65535 by omega)
          obtain ⟨z, hz⟩ : ∃ z, z = n * x := ⟨_, rfl⟩
          have ez : (n : Int) * (x : Int) = (z : Int) := by rw [hz]; push_cast; rfl
          rw [← hz] at gm
          obtain ⟨D2, hD2⟩ : ∃ D2 : Int, D2 = D1 - (z : Int) := ⟨_, rfl⟩
          have kd2 : D1 - (z : Int) = D2 := hD2.symm
          have d2a : -4295000000 ≤ D2 := by omega
          have d2b : D2 ≤ 65535 := by omega
          obtain ⟨E, Y, E9, Y9, he, hpos, hneg⟩ := digit_off (z := z) (D := D2) y9 dn9 gm (by omega)
          have HP2 : Hid (Puts 65536 l1 (moved k l2) (-(n : Int)) (i + 1) (p ++ [Y]) (-(E : Int))) := hST.out x Y E hX Y9 (by rw [ez]; omega)
          have HI2 := hSI.out Y
          have HB2 := hSB.out Y
          by_cases h0 : 0 ≤ D2
          · obtain ⟨rfl, hY⟩ := hpos h0
            have hn0 : ¬ D2 < 0 := by omega
            clear he hneg hpos hST hSI hSB kgl hX hx9 hD1 hD2 hz hq hq2 HK HK2 H2 HD2
            subst hY
            go_wp2_with fail
            go_roundg (gk - 1)
            case measure => omega
            case rel => exact ⟨i + 1, 0, p ++ [Y], by omega, by go_num, by go_num, HP2.out, by omega, HI2, HB2⟩
          · obtain ⟨kE, kY⟩ := hneg (by omega)
            have hn0 : D2 < 0 := by omega
            obtain ⟨F, hF⟩ : ∃ F : Int, F = 65535 - D2 := ⟨_, rfl⟩
            have kF : 65535 - D2 = F := hF.symm
            have F9 : F ≤ 4300000000 := by omega
            have F0 : 0 ≤ F := by omega
            rw [kF] at kE
            have kE2 : F.tdiv 65536 = (E : Int) := by rw [Int.tdiv_eq_ediv_of_nonneg F0]; exact kE
            obtain ⟨G, hG⟩ : ∃ G : Nat, G = E * 65536 := ⟨_, rfl⟩
            have kG : (E : Int) * 65536 = (G : Int) := by omega
            have G9 : G ≤ 4294967296 := by omega
            rw [kG] at kY
            clear he hneg hpos hST hSI hSB kgl hX hx9 hF hG hD1 hD2 hz hq hq2 HK HK2 H2 HD2
            go_wp2_with fail
            go_roundg (gk - 1)
            case measure => omega
            case rel => exact ⟨i + 1, E, p ++ [Y], by omega, by go_num, by go_num, HP2.out, E9, HI2, HB2⟩
        · have hq1 : ¬ (q : Int) < (K2 : Int) := by omega
          have hX : (0 : Nat) = (moved k l2).getD i 0 := (moved_high (by omega) (by rw [HK2.out, ← hq]; omega)).symm
          obtain ⟨E, Y, E9, Y9, he, hpos, hneg⟩ := digit_off (z := 0) (D := D1) y9 dn9 (by omega) (by omega)
          have HP2 : Hid (Puts 65536 l1 (moved k l2) (-(n : Int)) (i + 1) (p ++ [Y]) (-(E : Int))) := hST.out 0 Y E hX Y9 (by omega)
          have HI2 := hSI.out Y
          have HB2 := hSB.out Y
          by_cases h0 : 0 ≤ D1
          · obtain ⟨rfl, hY⟩ := hpos h0
            have hn0 : ¬ D1 < 0 := by omega
            clear he hneg hpos hST hSI hSB kgl hX hx9 hD1 hq HK HK2 H2 HD2
            subst hY
            go_wp2_with fail
            go_roundg (gk - 1)
            case measure => omega
            case rel => exact ⟨i + 1, 0, p ++ [Y], by omega, by go_num, by go_num, HP2.out, by omega, HI2, HB2⟩
          · obtain ⟨kE, kY⟩ := hneg (by omega)
            have hn0 : D1 < 0 := by omega
            obtain ⟨F, hF⟩ : ∃ F : Int, F = 65535 - D1 := ⟨_, rfl⟩
            have kF : 65535 - D1 = F := hF.symm
            have F9 : F ≤ 4300000000 := by omega
            have F0 : 0 ≤ F := by omega
            rw [kF] at kE
            have kE2 : F.tdiv 65536 = (E : Int) := by rw [Int.tdiv_eq_ediv_of_nonneg F0]; exact kE
            obtain ⟨G, hG⟩ : ∃ G : Nat, G = E * 65536 := ⟨_, rfl⟩
            have kG : (E : Int) * 65536 = (G : Int) := by omega
            have G9 : G ≤ 4294967296 := by omega
            rw [kG] at kY
            clear he hneg hpos hST hSI hSB kgl hX hx9 hF hG hD1 hq HK HK2 H2 HD2
            go_wp2_with fail
            go_roundg (gk - 1)
            case measure => omega
            case rel => exact ⟨i + 1, E, p ++ [Y], by omega, by go_num, by go_num, HP2.out, E9, HI2, HB2⟩
    · obtain rfl : i = K := by omega
      have il : ¬ (i : Int) < (i : Int) := by omega
      have hp := HP.out
      rw [Nat.sub_self, List.replicate_zero, List.append_nil] at HI
      have HV : Hid (vl 65536 p = R) := by
        refine HEnd.out p _ ?_ (show -(dn : Int) ≤ 0 by omega)
        rw [HK.out]; exact hp
      have HL : Hid (p.length = i) := hp.len
      have HLo : Hid (∀ d ∈ p, d < 65536) := hp.low
      clear hp HP HEnd
      go_wp2_with fail
      refine (trim_at wr w.heap.size i i 3 p HI.out HL.out (Nat.le_refl _) HLo.out (by omega)).mono ?_
      rintro e W3 ⟨⟨v, rfl, hv⟩, rfl⟩
      rw [HV.out] at hv
      have HVV : Hid (NumV W3 65536 R v) := hv
      clear hv
      go_wp2_with fail
      go_ret
      exact ⟨⟨_, rfl, HVV.out⟩, HB.out⟩
end Go.Proofs.YtohpbclofcflaaaGreat
