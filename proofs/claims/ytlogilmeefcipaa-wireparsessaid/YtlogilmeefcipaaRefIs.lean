/- The document's Is. -/
import Derived.Test.YtlogilmeefcipaaParse
set_option linter.unusedSimpArgs false
set_option linter.unusedVariables false
set_option maxRecDepth 100000
namespace Go.Proofs.Ytlogilmeefcipaa
open Go.RowKit Go.Deep Go.PlainAid Go.Shelf

theorem isNum_head {s : ByteArray} (ha : allDig s.data.toList = true) (h1 : ¬ s.toList = [48]) (h2 : ¬ s.toList = []) (b : Bool) (hb : (bt s 0 = 48 ∧ b = false) ∨ (bt s 0 ≠ 48 ∧ b = true)) : isNum s.data.toList = b := by
  rw [ByteArray.toList_eq] at h1 h2
  have hpos : 0 < s.size := List.length_pos_iff.2 h2
  have e := bt_list s 0 hpos
  have hh : s.data.toList.head? = some (s.data.toList[0]'hpos) := List.head?_eq_getElem? .. ▸ List.getElem?_eq_getElem hpos
  have e1 : (s.data.toList == [48]) = false := by simp [h1]
  have e2 : (s.data.toList != []) = true := by simp [h2]
  simp only [isNum, ha, e1, e2, hh, Bool.true_and, Bool.false_or]
  rcases hb with ⟨h3, rfl⟩ | ⟨h3, rfl⟩
  · have : s.data.toList[0]'hpos = 48 := UInt8.toNat_inj.1 (by show _ = 48; omega)
    simp [this]
  · have : s.data.toList[0]'hpos ≠ 48 := fun h => h3 (by rw [e, h]; rfl)
    rw [bne_iff_ne]; intro h; exact this (Option.some.inj h)
set_option maxRecDepth 100000 in
set_option maxHeartbeats 4000000 in
theorem is_any (s : ByteArray) (w : World) (hs : s.size ≤ 4611686018427387904) :
    Calls Try.prog 28 #[.string s] w fun e w' => e = .returned (.bool (isNum s.data.toList)) ∧ w' = w := by
  have hb := get_bt s
  go_enter Try.func28, Try.ntmps28
  by_cases h2 : s.toList = []
  · have hz : s.size = 0 := by
      rw [ByteArray.toList_eq] at h2
      rw [← size_list, h2]; rfl
    have HR : Hid (isNum s.data.toList = false) := isNum_nil h2
    clear h2
    go_wp2_with fail
    go_ret
    exact ⟨by rw [HR.out]; rfl, rfl⟩
  have hpos : 0 < s.size := by
    rw [ByteArray.toList_eq] at h2
    exact List.length_pos_iff.2 h2
  have hne : ((s.size : Int) == 0) = false := beq_eq_false_iff_ne.2 (by omega)
  go_wp2_with fail
  go_loop [3] (fun v => ∃ k : Nat, k ≤ s.size ∧ v = .int .i64 k ∧ allDig (s.data.toList.take k) = true) (fun v => s.size - (intOf v).toNat)
  case atStart => exact ⟨0, Nat.zero_le _, rfl, rfl⟩
  case round =>
    obtain ⟨k, hk, rfl, hd⟩ := hrel
    have HD : Hid (allDig (s.data.toList.take k) = true) := hd
    clear hd
    by_cases hlt : k < s.size
    · have kl : (k : Int) < (s.size : Int) := by omega
      have e := bt_list s k hlt
      have HS : Hid (48 ≤ bt s k ∧ bt s k ≤ 57 → allDig (s.data.toList.take (k + 1)) = true) := fun h => allDig_succ _ k hlt HD.out (by omega)
      have HN : Hid (bt s k < 48 ∨ 57 < bt s k → isNum s.data.toList = false) := fun h => isNum_bad _ k hlt (by omega)
      clear e
      have l0 := bt_nonneg s k
      have l1 := bt_le s k
      by_cases hc : bt s k < 48
      · have HR := HN.out (Or.inl hc)
        have HRR : Hid (isNum s.data.toList = false) := HR
        clear HR
        go_wp2_with fail
        go_ret
        exact ⟨by rw [HRR.out]; rfl, rfl⟩
      · by_cases hc2 : 57 < bt s k
        · have HR := HN.out (Or.inr hc2)
          have HRR : Hid (isNum s.data.toList = false) := HR
          clear HR
          go_wp2_with fail
          go_ret
          exact ⟨by rw [HRR.out]; rfl, rfl⟩
        · have HR := HS.out (by omega)
          have HRR : Hid (allDig (s.data.toList.take (k + 1)) = true) := HR
          clear HR
          go_wp2_with fail
          go_round
          case rel => exact ⟨k + 1, by omega, by go_num, HRR.out⟩
          case measure => simp [intOf]; omega
    · obtain rfl : k = s.size := by omega
      have HA : Hid (allDig s.data.toList = true) := by
        have := HD.out
        rw [List.take_of_length_le (by rw [size_list]; omega)] at this
        exact this
      by_cases h1 : s.toList = [48]
      · have HR : Hid (isNum s.data.toList = true) := isNum_zero h1
        have hs1 : s.size = 1 := by
          rw [ByteArray.toList_eq] at h1
          rw [← size_list, h1]; rfl
        have h3 : bt s 0 = 48 := by
          rw [bt_list s 0 hpos]
          have : s.data.toList[0]'hpos = 48 := by
            rw [ByteArray.toList_eq] at h1
            simp [h1]
          rw [this]; rfl
        have h3' : (bt s 0 != 48) = false := by simp [h3]
        clear h1 h2
        go_wp2_with fail
        go_ret
        exact ⟨by rw [HR.out]; simp [h3, hs1], rfl⟩
      · by_cases h3 : bt s 0 = 48
        · have HR : Hid (isNum s.data.toList = false) := isNum_head HA.out h1 h2 false (Or.inl ⟨h3, rfl⟩)
          have hs1 : s.size ≠ 1 := fun h => h1 (by
            rw [ByteArray.toList_eq]
            have hb0 := bt_list s 0 hpos
            have hl : s.data.toList.length = 1 := h
            have e48 : s.data.toList[0]'hpos = 48 := UInt8.toNat_inj.1 (by show _ = 48; omega)
            match hx : s.data.toList, hl with
            | [c], _ => simp only [hx, List.getElem_cons_zero] at e48; rw [e48])
          have h3' : (bt s 0 != 48) = false := by simp [h3]
          have hs1' : ((s.size : Int) == 1) = false := beq_eq_false_iff_ne.2 (by omega)
          clear h1 h2
          go_wp2_with fail
          go_ret
          exact ⟨by rw [HR.out]; simp [h3, hs1], rfl⟩
        · have HR : Hid (isNum s.data.toList = true) := isNum_head HA.out h1 h2 true (Or.inr ⟨h3, rfl⟩)
          have h3' : (bt s 0 != 48) = true := by simp [h3]
          clear h1 h2
          go_wp2_with fail
          go_ret
          exact ⟨by rw [HR.out]; simp [h3], rfl⟩

theorem is_S (l : List UInt8) (w : World) (hs : l.length ≤ 4611686018427387904) : Calls Try.prog 28 #[S l] w fun e w' => e = .returned (.bool (isNum l)) ∧ w' = w := by
  have h := is_any ⟨l.toArray⟩ w (by rw [size_S]; exact hs)
  have e1 : (⟨l.toArray⟩ : ByteArray).data.toList = l := by simp
  rw [e1] at h
  exact h
end Go.Proofs.Ytlogilmeefcipaa
