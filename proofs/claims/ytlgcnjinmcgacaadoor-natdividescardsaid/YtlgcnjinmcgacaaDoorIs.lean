/- The walks of isNumber and of the reference's Is: is a text a number? -/
import Derived.Test.YtlgcnjinmcgacaaDoorNum
import Derived.PlainAid
import Derived.Deep.RegionWith
set_option linter.unusedSimpArgs false
set_option linter.unusedVariables false
namespace Go.Proofs.YtlgcnjinmcgacaaDoor
open Go.RowKit Go.PlainAid

theorem size_list (s : ByteArray) : s.data.toList.length = s.size := rfl
theorem bt_list (s : ByteArray) (k : Nat) (h : k < s.size) : bt s k = ((s.data.toList[k]'h).toNat : Int) := by unfold bt; rw [dif_pos h]; rfl
theorem allDig_succ (l : List UInt8) (k : Nat) (h : k < l.length) (ha : allDig (l.take k) = true) (hd : 48 ≤ l[k].toNat ∧ l[k].toNat ≤ 57) : allDig (l.take (k + 1)) = true := by
  rw [List.take_succ_eq_append_getElem h]
  simp only [allDig, List.all_append, List.all_cons, List.all_nil, Bool.and_true, Bool.and_eq_true]
  exact ⟨ha, by simp [isDig, hd.1, hd.2]⟩
theorem isNum_bad (l : List UInt8) (k : Nat) (h : k < l.length) (hd : l[k].toNat < 48 ∨ 57 < l[k].toNat) : isNum l = false := by
  have : allDig l = false := by
    cases hx : allDig l with
    | false => rfl
    | true =>
      have := (List.all_eq_true.1 hx) l[k] (List.getElem_mem _)
      simp only [isDig, Bool.and_eq_true, decide_eq_true_eq] at this
      omega
  simp [isNum, this]

theorem isNum_nil {s : ByteArray} (h : s.toList = []) : isNum s.data.toList = false := by rw [← ByteArray.toList_eq, h]; rfl
theorem isNum_zero {s : ByteArray} (h : s.toList = [48]) : isNum s.data.toList = true := by rw [← ByteArray.toList_eq, h]; rfl
theorem isNum_head {s : ByteArray} (ha : allDig s.data.toList = true) (h1 : ¬ s.toList = [48]) (h2 : ¬ s.toList = []) (b : Bool) (hb : (bt s 0 = 48 ∧ b = false) ∨ (bt s 0 ≠ 48 ∧ b = true)) : isNum s.data.toList = b := by
  rw [ByteArray.toList_eq] at h1 h2
  have hpos : 0 < s.size := List.length_pos_iff.2 h2
  have e := bt_list s 0 hpos
  have hh : s.data.toList.head? = some (s.data.toList[0]'hpos) := List.head?_eq_getElem? .. ▸ List.getElem?_eq_getElem hpos
  have e1 : (s.data.toList == [48]) = false := by simp [h1]
  have e2 : (s.data.toList != []) = true := by simp [h2]
  simp only [isNum, ha, e1, e2, hh, Bool.true_and, Bool.false_or]
  rcases hb with ⟨h3, rfl⟩ | ⟨h3, rfl⟩
  · have : s.data.toList[0]'hpos = 48 := UInt8.toNat_inj.1 (by show _ = 48; omega)
    simp [this]
  · have : s.data.toList[0]'hpos ≠ 48 := fun h => h3 (by rw [e, h]; rfl)
    rw [bne_iff_ne]; intro h; exact this (Option.some.inj h)
theorem ret_b {a b : Bool} (h : a = b) : Ending.returned (.bool a) = .returned (.bool b) := by rw [h]

set_option maxRecDepth 100000 in
set_option maxHeartbeats 1000000 in
theorem isNumber_any (s : ByteArray) (w : World) (hs : s.size ≤ 4611686018427387904) :
    Calls Tryd.prog 109 #[.string s] w fun e w' => e = .returned (.bool (isNum s.data.toList)) ∧ w' = w := by
  have hb := get_bt s
  go_enter Tryd.func109, Tryd.ntmps109
  go_wp2_with fail
  go_loop [6] (fun v => ∃ k : Nat, k ≤ s.size ∧ v = .int .i64 k ∧ allDig (s.data.toList.take k) = true) (fun v => s.size - (intOf v).toNat)
  case atStart => exact ⟨0, Nat.zero_le _, rfl, rfl⟩
  case round =>
    obtain ⟨k, hk, rfl, hd⟩ := hrel
    have HD : Hid (allDig (s.data.toList.take k) = true) := hd
    clear hd
    by_cases hlt : k < s.size
    · have kl : (k : Int) < (s.size : Int) := by omega
      have e := bt_list s k hlt
      have HS : Hid (48 ≤ bt s k ∧ bt s k ≤ 57 → allDig (s.data.toList.take (k + 1)) = true) := fun h => allDig_succ _ k hlt HD.out (by omega)
      have HN : Hid (bt s k < 48 ∨ 57 < bt s k → isNum s.data.toList = false) := fun h => isNum_bad _ k hlt (by omega)
      clear e
      have l0 := bt_nonneg s k
      have l1 := bt_le s k
      by_cases hc : bt s k < 48
      · have HR := HN.out (Or.inl hc)
        have HRR : Hid (isNum s.data.toList = false) := HR
        clear HR
        go_wp2_with fail
        go_ret
        exact ⟨by rw [HRR.out]; rfl, rfl⟩
      · by_cases hc2 : 57 < bt s k
        · have HR := HN.out (Or.inr hc2)
          have HRR : Hid (isNum s.data.toList = false) := HR
          clear HR
          go_wp2_with fail
          go_ret
          exact ⟨by rw [HRR.out]; rfl, rfl⟩
        · have HR := HS.out (by omega)
          have HRR : Hid (allDig (s.data.toList.take (k + 1)) = true) := HR
          clear HR
          go_wp2_with fail
          go_round
          case rel => exact ⟨k + 1, by omega, by go_num, HRR.out⟩
          case measure => simp [intOf]; omega
    · obtain rfl : k = s.size := by omega
      have HA : Hid (allDig s.data.toList = true) := by
        have := HD.out
        rw [List.take_of_length_le (by rw [size_list]; omega)] at this
        exact this
      by_cases h1 : s.toList = [48]
      · have HR : Hid (isNum s.data.toList = true) := isNum_zero h1
        go_wp2_with fail
        go_ret
        exact ⟨by rw [HR.out]; rfl, rfl⟩
      · by_cases h2 : s.toList = []
        · have HR : Hid (isNum s.data.toList = false) := isNum_nil h2
          go_wp2_with fail
          go_ret
          exact ⟨by rw [HR.out]; rfl, rfl⟩
        · have hpos : 0 < s.size := by
            rw [ByteArray.toList_eq] at h2
            exact List.length_pos_iff.2 h2
          by_cases h3 : bt s 0 = 48
          · have HR : Hid (isNum s.data.toList = false) := isNum_head HA.out h1 h2 false (Or.inl ⟨h3, rfl⟩)
            have h3' : (bt s 0 != 48) = false := by simp [h3]
            go_wp2_with fail
            go_ret
            exact ⟨by rw [HR.out]; simp [h1, h2, h3], rfl⟩
          · have HR : Hid (isNum s.data.toList = true) := isNum_head HA.out h1 h2 true (Or.inr ⟨h3, rfl⟩)
            have h3' : (bt s 0 != 48) = true := by simp [h3]
            go_wp2_with fail
            go_ret
            exact ⟨by rw [HR.out]; simp [h1, h2, h3], rfl⟩

set_option maxRecDepth 100000 in
set_option maxHeartbeats 1000000 in
theorem is_any (s : ByteArray) (w : World) (hs : s.size ≤ 4611686018427387904) :
    Calls Tryd.prog 68 #[.string s] w fun e w' => e = .returned (.bool (isNum s.data.toList)) ∧ w' = w := by
  have hb := get_bt s
  go_enter Tryd.func68, Tryd.ntmps68
  by_cases h2 : s.toList = []
  · have hz : s.size = 0 := by
      rw [ByteArray.toList_eq] at h2
      rw [← size_list, h2]; rfl
    have HR : Hid (isNum s.data.toList = false) := isNum_nil h2
    clear h2
    go_wp2_with fail
    go_ret
    exact ⟨by rw [HR.out]; rfl, rfl⟩
  have hpos : 0 < s.size := by
    rw [ByteArray.toList_eq] at h2
    exact List.length_pos_iff.2 h2
  have hne : ((s.size : Int) == 0) = false := beq_eq_false_iff_ne.2 (by omega)
  go_wp2_with fail
  go_loop [3] (fun v => ∃ k : Nat, k ≤ s.size ∧ v = .int .i64 k ∧ allDig (s.data.toList.take k) = true) (fun v => s.size - (intOf v).toNat)
  case atStart => exact ⟨0, Nat.zero_le _, rfl, rfl⟩
  case round =>
    obtain ⟨k, hk, rfl, hd⟩ := hrel
    have HD : Hid (allDig (s.data.toList.take k) = true) := hd
    clear hd
    by_cases hlt : k < s.size
    · have kl : (k : Int) < (s.size : Int) := by omega
      have e := bt_list s k hlt
      have HS : Hid (48 ≤ bt s k ∧ bt s k ≤ 57 → allDig (s.data.toList.take (k + 1)) = true) := fun h => allDig_succ _ k hlt HD.out (by omega)
      have HN : Hid (bt s k < 48 ∨ 57 < bt s k → isNum s.data.toList = false) := fun h => isNum_bad _ k hlt (by omega)
      clear e
      have l0 := bt_nonneg s k
      have l1 := bt_le s k
      by_cases hc : bt s k < 48
      · have HR := HN.out (Or.inl hc)
        have HRR : Hid (isNum s.data.toList = false) := HR
        clear HR
        go_wp2_with fail
        go_ret
        exact ⟨by rw [HRR.out]; rfl, rfl⟩
      · by_cases hc2 : 57 < bt s k
        · have HR := HN.out (Or.inr hc2)
          have HRR : Hid (isNum s.data.toList = false) := HR
          clear HR
          go_wp2_with fail
          go_ret
          exact ⟨by rw [HRR.out]; rfl, rfl⟩
        · have HR := HS.out (by omega)
          have HRR : Hid (allDig (s.data.toList.take (k + 1)) = true) := HR
          clear HR
          go_wp2_with fail
          go_round
          case rel => exact ⟨k + 1, by omega, by go_num, HRR.out⟩
          case measure => simp [intOf]; omega
    · obtain rfl : k = s.size := by omega
      have HA : Hid (allDig s.data.toList = true) := by
        have := HD.out
        rw [List.take_of_length_le (by rw [size_list]; omega)] at this
        exact this
      by_cases h1 : s.toList = [48]
      · have HR : Hid (isNum s.data.toList = true) := isNum_zero h1
        have hs1 : s.size = 1 := by
          rw [ByteArray.toList_eq] at h1
          rw [← size_list, h1]; rfl
        have h3 : bt s 0 = 48 := by
          rw [bt_list s 0 hpos]
          have : s.data.toList[0]'hpos = 48 := by
            rw [ByteArray.toList_eq] at h1
            simp [h1]
          rw [this]; rfl
        have h3' : (bt s 0 != 48) = false := by simp [h3]
        clear h1 h2
        go_wp2_with fail
        go_ret
        exact ⟨by rw [HR.out]; simp [h3, hs1], rfl⟩
      · by_cases h3 : bt s 0 = 48
        · have HR : Hid (isNum s.data.toList = false) := isNum_head HA.out h1 h2 false (Or.inl ⟨h3, rfl⟩)
          have hs1 : s.size ≠ 1 := fun h => h1 (by
            rw [ByteArray.toList_eq]
            have hb0 := bt_list s 0 hpos
            have hl : s.data.toList.length = 1 := h
            have e48 : s.data.toList[0]'hpos = 48 := UInt8.toNat_inj.1 (by show _ = 48; omega)
            match hx : s.data.toList, hl with
            | [c], _ => simp only [hx, List.getElem_cons_zero] at e48; rw [e48])
          have h3' : (bt s 0 != 48) = false := by simp [h3]
          have hs1' : ((s.size : Int) == 1) = false := beq_eq_false_iff_ne.2 (by omega)
          clear h1 h2
          go_wp2_with fail
          go_ret
          exact ⟨by rw [HR.out]; simp [h3, hs1], rfl⟩
        · have HR : Hid (isNum s.data.toList = true) := isNum_head HA.out h1 h2 true (Or.inr ⟨h3, rfl⟩)
          have h3' : (bt s 0 != 48) = true := by simp [h3]
          clear h1 h2
          go_wp2_with fail
          go_ret
          exact ⟨by rw [HR.out]; simp [h3], rfl⟩

/-- What is wrong with a text that is handed in as a number. -/
def wrT (s : ByteArray) : Nat := if isNum s.data.toList = false then 2 else if 4000 < s.size then 3 else 0
theorem wrT_form {s : ByteArray} (h : isNum s.data.toList = false) : wrT s = 2 := by simp [wrT, h]
theorem wrT_long {s : ByteArray} (h : isNum s.data.toList = true) (h2 : 4000 < s.size) : wrT s = 3 := by simp [wrT, h, h2]
theorem wrT_ok {s : ByteArray} (h : isNum s.data.toList = true) (h2 : ¬ 4000 < s.size) : wrT s = 0 := by simp [wrT, h, h2]

set_option maxHeartbeats 400000 in
theorem refWrong_any (s : ByteArray) (w : World) (hs : s.size ≤ 4611686018427387904) :
    Calls Tryd.prog 47 #[.string s] w fun e w' => e = .returned (.int .i64 (wrT s : Int)) ∧ w' = w := by
  have HC : Hid (Calls Tryd.prog 68 #[.string s] w fun e w' => e = .returned (.bool (isNum s.data.toList)) ∧ w' = w) := is_any s w hs
  go_enter Tryd.func47, Tryd.ntmps47
  cases hn : isNum s.data.toList with
  | false =>
    have HW : Hid (wrT s = 2) := wrT_form hn
    rw [hn] at HC
    clear hn
    go_wp2_with (go_at_call 68; refine HC.out.mono ?_; rintro e w' ⟨rfl, rfl⟩)
    go_ret
    exact ⟨by rw [HW.out]; rfl, rfl⟩
  | true =>
    rw [hn] at HC
    by_cases hl : 4000 < s.size
    · have HW : Hid (wrT s = 3) := wrT_long hn hl
      have hl' : (4000 : Int) < (s.size : Int) := by omega
      clear hn
      go_wp2_with (go_at_call 68; refine HC.out.mono ?_; rintro e w' ⟨rfl, rfl⟩)
      go_ret
      exact ⟨by rw [HW.out]; rfl, rfl⟩
    · have HW : Hid (wrT s = 0) := wrT_ok hn hl
      have hl' : ¬ (4000 : Int) < (s.size : Int) := by omega
      clear hn
      go_wp2_with (go_at_call 68; refine HC.out.mono ?_; rintro e w' ⟨rfl, rfl⟩)
      go_ret
      exact ⟨by rw [HW.out]; rfl, rfl⟩
/-- Of two texts the first one that is wrong tells it. -/
def wr2 (a b : ByteArray) : Nat := if wrT a = 0 then wrT b else wrT a
set_option maxHeartbeats 400000 in
theorem lawWrong_any (a b : ByteArray) (w : World) (ha : a.size ≤ 4611686018427387904) (hb : b.size ≤ 4611686018427387904) :
    Calls Tryd.prog 9 #[.string a, .string b] w fun e w' => e = .returned (.int .i64 (wr2 a b : Int)) ∧ w' = w := by
  have HA : Hid (Calls Tryd.prog 47 #[.string a] w fun e w' => e = .returned (.int .i64 (wrT a : Int)) ∧ w' = w) := refWrong_any a w ha
  have HB : Hid (Calls Tryd.prog 47 #[.string b] w fun e w' => e = .returned (.int .i64 (wrT b : Int)) ∧ w' = w) := refWrong_any b w hb
  go_enter Tryd.func9, Tryd.ntmps9
  by_cases h0 : wrT a = 0
  · have HW : Hid (wr2 a b = wrT b) := by show _ = _; simp [wr2, h0]
    rw [h0] at HA
    clear h0
    generalize wrT b = x at *
    go_wp2_with (first | (go_at_call_of 47 a; refine HA.out.mono ?_; rintro e w' ⟨rfl, rfl⟩) | (go_at_call_of 47 b; refine HB.out.mono ?_; rintro e w' ⟨rfl, rfl⟩))
    go_ret
    exact ⟨by rw [HW.out]; rfl, rfl⟩
  · have HW : Hid (wr2 a b = wrT a) := by show _ = _; simp [wr2, h0]
    have h0' : ((wrT a : Int) != 0) = true := by simp; omega
    clear h0
    generalize wrT a = x at *
    go_wp2_with (first | (go_at_call_of 47 a; refine HA.out.mono ?_; rintro e w' ⟨rfl, rfl⟩) | (go_at_call_of 47 b; refine HB.out.mono ?_; rintro e w' ⟨rfl, rfl⟩))
    go_ret
    exact ⟨by rw [HW.out]; rfl, rfl⟩
end Go.Proofs.YtlgcnjinmcgacaaDoor
