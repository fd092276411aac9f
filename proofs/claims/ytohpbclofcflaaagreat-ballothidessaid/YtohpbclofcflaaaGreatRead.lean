/- The reference's Read. -/
import Derived.Test.YtohpbclofcflaaaGreatBe
set_option linter.unusedSimpArgs false
set_option linter.unusedVariables false
namespace Go.Proofs.YtohpbclofcflaaaGreat
open Go.RowKit Go.Deep Go.PlainAid

theorem bt_list (s : ByteArray) (k : Nat) (h : k < s.size) : bt s k = ((s.data.toList[k]'h).toNat : Int) := by unfold bt; rw [dif_pos h]; rfl
set_option maxRecDepth 100000 in
set_option maxHeartbeats 2000000 in
theorem read_any (w : World) (s : ByteArray) (hs : s.size ≤ 1000000) :
    Calls Tryz.prog 20 #[.string s] w fun e w' => (∃ v, e = .returned v ∧ NumV w' 65536 (numS s) v) ∧ Below w.heap.size w w' := by
  have hb := get_bt s
  obtain ⟨n, hn⟩ : ∃ n, n = s.size := ⟨_, rfl⟩
  have hn2 : s.data.toList.length = n := by rw [hn]; rfl
  rw [← hn] at hs
  obtain ⟨K, hK⟩ : ∃ K, K = (n + 1) / 2 := ⟨_, rfl⟩
  have kK : ((n : Int) + 1) / 2 = (K : Int) := by omega
  have kK2 : ((n : Int) + 1).tdiv 2 = (K : Int) := by rw [Int.tdiv_eq_ediv_of_nonneg (by omega)]; omega
  have hk1 : K ≤ 1000000 := by omega
  have hmk := fun w => makeNat (K : Int) K rfl (by omega) w
  have HK : Hid (K = (n + 1) / 2) := hK
  have HS : Hid (Rd s.data.toList 0 (List.replicate K 0)) := by
    have := Rd.start s.data.toList
    rw [hn2, ← hK] at this
    exact this
  have HN : Hid (s.data.toList.length = n) := hn2
  have hsz : s.size = n := hn.symm
  have HBt : Hid (∀ p (h : p < s.data.toList.length), bt s p = ((s.data.toList[p]'h).toNat : Int)) := fun p h => bt_list s p h
  have HV : Hid (numS s = beV s.data.toList) := rfl
  clear hK hn hn2
  go_enter Tryz.func20, Tryz.ntmps20
  go_wp2_with fail
  have q1 : Hid (IHolds (w.alloc (.cells (zs (List.replicate K 0)).toArray 3)) w.heap.size 3 (zs (List.replicate K 0))) := IHolds.new w 3 _
  have q2 : Hid (Below w.heap.size w (w.alloc (.cells (zs (List.replicate K 0)).toArray 3))) := (Below.refl _ w).alloc (Nat.le_refl _) _
  clear hmk
  generalize w.alloc (.cells (zs (List.replicate K 0)).toArray 3) = W0 at *
  go_loopg [4] n (fun gk v4 wr => ∃ (i : Nat) (P : List Nat), i + gk = n ∧ v4 = .int .i64 (i : Int) ∧ Rd s.data.toList i P ∧ IHolds wr w.heap.size 3 (zs P) ∧ Below w.heap.size w wr)
  case atStart => exact ⟨0, List.replicate K 0, by omega, rfl, HS.out, q1.out, q2.out⟩
  case round =>
    obtain ⟨i, P, hi, rfl, hR, hI, hB⟩ := hrel
    clear q1 q2 HS
    have HR : Hid (Rd s.data.toList i P) := hR
    have HI : Hid (IHolds wr w.heap.size 3 (zs P)) := hI
    have HB : Hid (Below w.heap.size w wr) := hB
    have HL : Hid (P.length = K) := by show _ = _; rw [hR.len, HN.out, HK.out]
    clear hR hI hB
    by_cases hlt : i < n
    · have il : (i : Int) < (n : Int) := by omega
      obtain ⟨p, hp⟩ : ∃ p, p = n - 1 - i := ⟨_, rfl⟩
      obtain ⟨j, hj⟩ : ∃ j, j = i / 2 := ⟨_, rfl⟩
      have hp9 : p < n := by omega
      have hpl : p < s.data.toList.length := by rw [HN.out]; exact hp9
      obtain ⟨c, hc⟩ : ∃ c, c = (s.data.toList[p]'hpl).toNat := ⟨_, rfl⟩
      have kc : bt s p = (c : Int) := by rw [HBt.out p hpl, hc]
      have c9 : c < 256 := by rw [hc]; exact UInt8.toNat_lt _
      have kp : (n : Int) - 1 - (i : Int) = (p : Int) := by omega
      have kj : (i : Int) / 2 = (j : Int) := by omega
      have kj2 : (i : Int).tdiv 2 = (j : Int) := by rw [Int.tdiv_eq_ediv_of_nonneg (by omega)]; omega
      have jK : j < P.length := by rw [HL.out, HK.out]; omega
      have jK2 : (j : Int) < (K : Int) := by have := HL.out; omega
      have j9 : j ≤ 1000000 := by omega
      have i9 : i ≤ 1000000 := by omega
      have ST : Hid (∀ x, x = P[j] + (if i % 2 = 1 then c * 256 else c) → x < 65536 ∧ Rd s.data.toList (i + 1) (P.set j x)) := fun x hx => by
        have e : ∀ (q : Nat) (h : q < s.data.toList.length), q = p → (s.data.toList[q]'h).toNat = c := by intro q h hq; subst hq; exact hc.symm
        refine HR.out.step (by rw [HN.out]; exact hlt) c (e _ _ (by rw [HN.out]; exact hp.symm)).symm j x hj ?_
        rw [hx, List.getD_eq_getElem?_getD, List.getElem?_eq_getElem jK]; rfl
      have g1 : P[j] < 65536 := HR.out.low _ (List.getElem_mem _)
      have c3 := HI.out.at j jK
      have f3 : wr.frozen? ⟨w.heap.size, j, none⟩ = false := HI.out.frozen _
      generalize P[j] = x0 at *
      clear HBt HV hp hj hpl hc jK HR HL HK HN
      by_cases ho : i % 2 = 1
      · have ho1 : (i : Int) % 2 = 1 := by omega
        have ho2 : (i : Int).tmod 2 = 1 := by rw [Int.tmod_eq_emod_of_nonneg (by omega)]; omega
        rw [if_pos ho] at ST
        obtain ⟨y, hy⟩ : ∃ y, y = c * 256 := ⟨_, rfl⟩
        have ky : (c : Int) * 256 = (y : Int) := by omega
        have y9 : y < 65536 := by omega
        rw [← hy] at ST
        obtain ⟨x, hx⟩ : ∃ x, x = x0 + y := ⟨_, rfl⟩
        have kx : (x0 : Int) + (y : Int) = (x : Int) := by omega
        obtain ⟨x9, hR2⟩ := ST.out x hx
        have HR2 : Hid (Rd s.data.toList (i + 1) (P.set j x)) := hR2
        have HI2 : Hid (IHolds (wr.setCell ⟨w.heap.size, j, none⟩ (.int .i64 (x : Int))) w.heap.size 3 (zs (P.set j x))) := by
          have := HI.out.set j (.int .i64 (x : Int))
          rw [zs_set P j x _ rfl] at this
          exact this
        have HB2 : Hid (Below w.heap.size w (wr.setCell ⟨w.heap.size, j, none⟩ (.int .i64 (x : Int)))) := HB.out.setCell (Nat.le_refl _) _
        clear hR2 ST HI HB hy hx ho
        go_wp2_with fail
        go_roundg (gk - 1)
        case measure => omega
        case rel => exact ⟨i + 1, P.set j x, by omega, by go_num, HR2.out, HI2.out, HB2.out⟩
      · have ho1 : (i : Int) % 2 = 0 := by omega
        have ho2 : (i : Int).tmod 2 = 0 := by rw [Int.tmod_eq_emod_of_nonneg (by omega)]; omega
        rw [if_neg ho] at ST
        obtain ⟨x, hx⟩ : ∃ x, x = x0 + c := ⟨_, rfl⟩
        have kx : (x0 : Int) + (c : Int) = (x : Int) := by omega
        obtain ⟨x9, hR2⟩ := ST.out x hx
        have HR2 : Hid (Rd s.data.toList (i + 1) (P.set j x)) := hR2
        have HI2 : Hid (IHolds (wr.setCell ⟨w.heap.size, j, none⟩ (.int .i64 (x : Int))) w.heap.size 3 (zs (P.set j x))) := by
          have := HI.out.set j (.int .i64 (x : Int))
          rw [zs_set P j x _ rfl] at this
          exact this
        have HB2 : Hid (Below w.heap.size w (wr.setCell ⟨w.heap.size, j, none⟩ (.int .i64 (x : Int)))) := HB.out.setCell (Nat.le_refl _) _
        clear hR2 ST HI HB hx ho
        go_wp2_with fail
        go_roundg (gk - 1)
        case measure => omega
        case rel => exact ⟨i + 1, P.set j x, by omega, by go_num, HR2.out, HI2.out, HB2.out⟩
    · obtain rfl : i = n := by omega
      have il : ¬ (i : Int) < (i : Int) := by omega
      have HE : Hid (vl 65536 P = numS s) := by
        show _ = _
        rw [HR.out.eq, HN.out, Nat.sub_self, List.drop_zero, HV.out]
      have HLo : Hid (∀ d ∈ P, d < 65536) := HR.out.low
      clear HR
      go_wp2_with fail
      refine (trim_at wr w.heap.size K K 3 P HI.out HL.out (Nat.le_refl _) HLo.out (by omega)).mono ?_
      rintro e W3 ⟨⟨v, rfl, hv⟩, rfl⟩
      rw [HE.out] at hv
      have HVV : Hid (NumV W3 65536 (numS s) v) := hv
      clear hv
      go_wp2_with fail
      go_ret
      exact ⟨⟨_, rfl, HVV.out⟩, HB.out⟩
end Go.Proofs.YtohpbclofcflaaaGreat
