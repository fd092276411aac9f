/- Two lists of texts: are they one? -/
import Derived.Test.YtfbceknafmkipaaGreatSl
import Derived.Deep.QuietTactic
import Derived.BigQuiet
set_option linter.unusedSimpArgs false
set_option linter.unusedVariables false
set_option maxRecDepth 100000
namespace Go.Proofs.YtfbceknafmkipaaGreat
open Go.RowKit Go.Deep Go.PlainAid

theorem toList_ne {s t : ByteArray} (h : ¬ s = t) : (s.toList == t.toList) = false := by
  rw [beq_eq_false_iff_ne]
  intro e
  rw [ByteArray.toList_eq, ByteArray.toList_eq] at e
  apply h
  cases s; cases t
  simpa using e
set_option maxHeartbeats 1000000 in
theorem equal66 {w : World} {a b : Option Addr} {l m : List ByteArray} {c d : Nat} (hl : l.length ≤ 9223372036854775807) (hs : SL w a l) (hm : SL w b m) :
    Calls Tryz.prog 67 #[.slice a l.length c, .slice b m.length d] w fun e w' => e = .returned (.bool (decide (l = m))) ∧ Below w.heap.size w w' := by
  by_cases hlen : l.length = m.length
  · have HS : Hid (SL w a l) := hs
    have HM : Hid (SL w b m) := hm
    have HE : Hid (l.length = m.length) := hlen
    rw [← hlen]
    clear hs hm hlen
    go_enter Tryz.func67, Tryz.ntmps67
    go_wp2_with fail
    go_loopg [5, 13] l.length (fun gk v5 v13 wr => ∃ i : Nat, i + gk = l.length ∧ v13 = .int .i64 (i : Int) ∧ Below w.heap.size w wr ∧ l.take i = m.take i)
    case atStart => exact ⟨0, by omega, rfl, Below.refl _ _, by simp⟩
    case round =>
      obtain ⟨i, hig, rfl, hB, hn⟩ := hrel
      have B : Hid (Below w.heap.size w wr) := hB
      have HN : Hid (l.take i = m.take i) := hn
      clear hB hn
      by_cases hi : i < l.length
      · have hi2 : i < m.length := by have := HE.out; omega
        obtain ⟨b1, o1, rfl, hc1⟩ := HS.out.of_below B.out i hi
        obtain ⟨b2, o2, rfl, hc2⟩ := HM.out.of_below B.out i hi2
        have il : (i : Int) < (l.length : Int) := by omega
        have HT : Hid (l[i] = m[i] → l.take (i + 1) = m.take (i + 1)) := fun h => by rw [List.take_succ_eq_append_getElem hi, List.take_succ_eq_append_getElem hi2, HN.out, h]
        have HF : Hid (l[i] ≠ m[i] → decide (l = m) = false) := fun h => decide_eq_false (fun e => h (by subst e; rfl))
        generalize l[i] = s at *
        generalize m[i] = t at *
        clear hi2
        by_cases hst : s = t
        · have HTe := HT.out hst
          have h2 : (s.toList == t.toList) = true := by rw [hst]; simp
          clear hst HT HF
          have HTT : Hid _ := HTe
          clear HTe
          go_wp2_with fail
          go_quiet (fail)
          have BQ : Hid (Below w.heap.size w (World.drewN wr nq)) := B.out.trans ⟨rfl, rfl, rfl, Nat.le_refl _, fun _ _ => rfl⟩
          generalize World.drewN wr nq = wq at *
          go_wp2_with fail
          go_roundg (gk - 1)
          case measure => omega
          case rel => exact ⟨i + 1, by omega, by go_num, BQ.out, HTT.out⟩
        · have HFe := HF.out hst
          have h2 : (s.toList == t.toList) = false := toList_ne hst
          have HFF : Hid _ := HFe
          clear hst HT HF HFe
          go_wp2_with fail
          go_quiet (fail)
          have BQ : Hid (Below w.heap.size w (World.drewN wr nq)) := B.out.trans ⟨rfl, rfl, rfl, Nat.le_refl _, fun _ _ => rfl⟩
          generalize World.drewN wr nq = wq at *
          go_wp2_with fail
          go_ret
          exact ⟨by rw [HFF.out]; rfl, BQ.out⟩
      · have il : ¬ (i : Int) < (l.length : Int) := by omega
        have HTT : Hid (decide (l = m) = true) := by
          have h := HN.out
          have he := HE.out
          rw [List.take_of_length_le (by omega), List.take_of_length_le (by omega)] at h
          exact decide_eq_true h
        go_wp2_with fail
        go_ret
        exact ⟨by rw [HTT.out]; rfl, B.out⟩
  · have hne : ((l.length : Int) != (m.length : Int)) = true := by simp [bne]; omega
    have HF : Hid (decide (l = m) = false) := decide_eq_false (fun e => hlen (by rw [e]))
    clear hs hm hlen
    go_enter Tryz.func67, Tryz.ntmps67
    go_wp2_with fail
    go_ret
    exact ⟨by rw [HF.out]; rfl, Below.refl _ _⟩
set_option maxHeartbeats 1000000 in
theorem same8 {w : World} {a b : Option Addr} {l m : List ByteArray} {c d : Nat} (hl : l.length ≤ 9223372036854775807) (hs : SL w a l) (hm : SL w b m) :
    Calls Tryz.prog 23 #[.slice a l.length c, .slice b m.length d] w fun e w' => e = .returned (.bool (decide (l = m))) ∧ Below w.heap.size w w' := by
  by_cases hlen : l.length = m.length
  · have HS : Hid (SL w a l) := hs
    have HM : Hid (SL w b m) := hm
    have HE : Hid (l.length = m.length) := hlen
    rw [← hlen]
    clear hs hm hlen
    go_enter Tryz.func23, Tryz.ntmps23
    go_wp2_with fail
    go_loopg [5, 13] l.length (fun gk v5 v13 wr => ∃ i : Nat, i + gk = l.length ∧ v13 = .int .i64 (i : Int) ∧ Below w.heap.size w wr ∧ l.take i = m.take i)
    case atStart => exact ⟨0, by omega, rfl, Below.refl _ _, by simp⟩
    case round =>
      obtain ⟨i, hig, rfl, hB, hn⟩ := hrel
      have B : Hid (Below w.heap.size w wr) := hB
      have HN : Hid (l.take i = m.take i) := hn
      clear hB hn
      by_cases hi : i < l.length
      · have hi2 : i < m.length := by have := HE.out; omega
        obtain ⟨b1, o1, rfl, hc1⟩ := HS.out.of_below B.out i hi
        obtain ⟨b2, o2, rfl, hc2⟩ := HM.out.of_below B.out i hi2
        have il : (i : Int) < (l.length : Int) := by omega
        have HT : Hid (l[i] = m[i] → l.take (i + 1) = m.take (i + 1)) := fun h => by rw [List.take_succ_eq_append_getElem hi, List.take_succ_eq_append_getElem hi2, HN.out, h]
        have HF : Hid (l[i] ≠ m[i] → decide (l = m) = false) := fun h => decide_eq_false (fun e => h (by subst e; rfl))
        generalize l[i] = s at *
        generalize m[i] = t at *
        clear hi2
        by_cases hst : s = t
        · have HTe := HT.out hst
          have h2 : (s.toList == t.toList) = true := by rw [hst]; simp
          clear hst HT HF
          have HTT : Hid _ := HTe
          clear HTe
          go_wp2_with fail
          go_quiet (fail)
          have BQ : Hid (Below w.heap.size w (World.drewN wr nq)) := B.out.trans ⟨rfl, rfl, rfl, Nat.le_refl _, fun _ _ => rfl⟩
          generalize World.drewN wr nq = wq at *
          go_wp2_with fail
          go_roundg (gk - 1)
          case measure => omega
          case rel => exact ⟨i + 1, by omega, by go_num, BQ.out, HTT.out⟩
        · have HFe := HF.out hst
          have h2 : (s.toList == t.toList) = false := toList_ne hst
          have HFF : Hid _ := HFe
          clear hst HT HF HFe
          go_wp2_with fail
          go_quiet (fail)
          have BQ : Hid (Below w.heap.size w (World.drewN wr nq)) := B.out.trans ⟨rfl, rfl, rfl, Nat.le_refl _, fun _ _ => rfl⟩
          generalize World.drewN wr nq = wq at *
          go_wp2_with fail
          go_ret
          exact ⟨by rw [HFF.out]; rfl, BQ.out⟩
      · have il : ¬ (i : Int) < (l.length : Int) := by omega
        have HTT : Hid (decide (l = m) = true) := by
          have h := HN.out
          have he := HE.out
          rw [List.take_of_length_le (by omega), List.take_of_length_le (by omega)] at h
          exact decide_eq_true h
        go_wp2_with fail
        go_ret
        exact ⟨by rw [HTT.out]; rfl, B.out⟩
  · have hne : ((l.length : Int) != (m.length : Int)) = true := by simp [bne]; omega
    have HF : Hid (decide (l = m) = false) := decide_eq_false (fun e => hlen (by rw [e]))
    clear hs hm hlen
    go_enter Tryz.func23, Tryz.ntmps23
    go_wp2_with fail
    go_ret
    exact ⟨by rw [HF.out]; rfl, Below.refl _ _⟩
end Go.Proofs.YtfbceknafmkipaaGreat
