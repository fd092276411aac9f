/- Tags; four bytes of a number; same; Head on the document's side. -/
import Derived.Test.YteomefhjglnghaaDoorRb
import Derived.Test.YteomefhjglnghaaDoorFParts
set_option linter.unusedSimpArgs false
set_option linter.unusedVariables false
set_option maxRecDepth 100000
namespace Go.Proofs.YteomefhjglnghaaDoor.F
open Go.RowKit
set_option maxRecDepth 100000 in
set_option maxHeartbeats 400000 in
theorem four32 (n : Nat) (hn : n < 9223372036854775808) (w : World) :
    Calls Tryd.prog 36 #[.int .i64 (n : Int)] w fun e w' => e = .returned (.string ⟨(fourL n).toArray⟩) ∧ Below w.heap.size w w' := by
  have hcv := four_convert n w
  have HB : Hid (Below w.heap.size w (w.alloc (.cells #[Value.int .u8 ((n : Int) / 16777216 % 256), Value.int .u8 ((n : Int) / 65536 % 256), Value.int .u8 ((n : Int) / 256 % 256), Value.int .u8 ((n : Int) % 256)] 5))) := (Below.refl _ w).alloc (Nat.le_refl _) _
  generalize fourL n = F4 at *
  go_enter Tryd.func36, Tryd.ntmps36
  go_wp2_with fail
  go_ret
  exact ⟨rfl, HB.out⟩

end Go.Proofs.YteomefhjglnghaaDoor.F
namespace Go.Proofs.YteomefhjglnghaaDoor
open Go.RowKit Go.Deep Go.PlainAid

/-- The tag of a label and parts. -/
def tgF (label : ByteArray) (ps : List ByteArray) : ByteArray := ⟨(F.digL (F.hK 0) (F.partsL (label :: ps))).toArray⟩
theorem tgF_size (l : ByteArray) (ps : List ByteArray) : (tgF l ps).size = 32 := by
  show (F.digL (F.hK 0) (F.partsL (l :: ps))).toArray.size = 32
  rw [List.size_toArray, F.digL_length]
theorem partsL_le : ∀ ps : List ByteArray, (∀ p ∈ ps, p.size ≤ 1048576) → (F.partsL ps).length ≤ ps.length * 1048580
  | [], _ => by simp [F.partsL_nil]
  | p :: ps, h => by
    have h1 := partsL_le ps (fun q hq => h q (by simp [hq]))
    have h2 : p.data.toList.length ≤ 1048576 := h p (by simp)
    rw [F.partsL_cons, List.length_append, List.length_append, F.fourL_length, List.length_cons, Nat.succ_mul]
    omega
theorem Sz.bound {l : ByteArray} {ps : List ByteArray} (hl : l.size ≤ 1048576) (h : Sz ps) : (F.partsL (l :: ps)).length < 4611686018427387904 := by
  by_cases h2 : 2 ≤ ps.length
  · have := partsL_le (l :: ps) (fun q hq => by rcases List.mem_cons.1 hq with rfl | hq; exact hl; exact h.2.2 h2 q hq)
    have h1 := h.1
    rw [List.length_cons] at this
    omega
  · match ps, h2 with
    | [], _ =>
      have := partsL_le [l] (fun q hq => by simp at hq; subst hq; exact hl)
      simp at this
      omega
    | [p], _ =>
      have h3 : p.data.toList.length ≤ 140737488355328 := h.2.1 p (by simp)
      have h4 : l.data.toList.length ≤ 1048576 := hl
      rw [F.partsL_cons, F.partsL_cons, F.partsL_nil]
      simp only [List.length_append, F.fourL_length, List.length_nil]
      omega
    | p :: q :: r, h2 => exact absurd (show 2 ≤ (p :: q :: r).length by simp) h2
theorem tagP {w : World} (hT : F.Tabs w) (hS : F.Starts w) : TagC tgF 35 w := fun l ps W a cap hW hl hs h =>
  F.tagFace_any l a cap ps W h (by have := hs.1; omega) (by omega) (fun i hi => by have := hs.2.1 ps[i] (List.getElem_mem hi); omega) (Nat.lt_trans (Sz.bound hl hs) (by decide)) (hT.of_below hW hT.size) (hS.of_below hW hT.size)
def fourT (n : Nat) : ByteArray := ⟨(F.fourL n).toArray⟩
theorem fourT_size (n : Nat) : (fourT n).size = 4 := rfl
theorem toList_ne {s t : ByteArray} (h : ¬ s = t) : (s.toList == t.toList) = false := by
  rw [beq_eq_false_iff_ne]
  intro e
  rw [ByteArray.toList_eq, ByteArray.toList_eq] at e
  apply h
  cases s; cases t
  simpa using e
set_option maxHeartbeats 1000000 in
theorem same7 {w : World} {a b : Option Addr} {l m : List ByteArray} {c d : Nat} (hl : l.length ≤ 9223372036854775807) (hs : SL w a l) (hm : SL w b m) :
    Calls Tryd.prog 7 #[.slice a l.length c, .slice b m.length d] w fun e w' => e = .returned (.bool (decide (l = m))) ∧ Below w.heap.size w w' := by
  by_cases hlen : l.length = m.length
  · have HS : Hid (SL w a l) := hs
    have HM : Hid (SL w b m) := hm
    have HE : Hid (l.length = m.length) := hlen
    rw [← hlen]
    clear hs hm hlen
    go_enter Tryd.func7, Tryd.ntmps7
    go_wp2_with fail
    go_loopg [5, 13] l.length (fun gk v5 v13 wr => ∃ i : Nat, i + gk = l.length ∧ v13 = .int .i64 (i : Int) ∧ Below w.heap.size w wr ∧ l.take i = m.take i)
    case atStart => exact ⟨0, by omega, rfl, Below.refl _ _, by simp⟩
    case round =>
      obtain ⟨i, hig, rfl, hB, hn⟩ := hrel
      have B : Hid (Below w.heap.size w wr) := hB
      have HN : Hid (l.take i = m.take i) := hn
      clear hB hn
      by_cases hi : i < l.length
      · have hi2 : i < m.length := by have := HE.out; omega
        obtain ⟨b1, o1, rfl, hc1⟩ := HS.out.of_below B.out i hi
        obtain ⟨b2, o2, rfl, hc2⟩ := HM.out.of_below B.out i hi2
        have il : (i : Int) < (l.length : Int) := by omega
        have HT : Hid (l[i] = m[i] → l.take (i + 1) = m.take (i + 1)) := fun h => by rw [List.take_succ_eq_append_getElem hi, List.take_succ_eq_append_getElem hi2, HN.out, h]
        have HF : Hid (l[i] ≠ m[i] → decide (l = m) = false) := fun h => decide_eq_false (fun e => h (by subst e; rfl))
        generalize l[i] = s at *
        generalize m[i] = t at *
        clear hi2
        by_cases hst : s = t
        · have HTe := HT.out hst
          have h2 : (s.toList == t.toList) = true := by rw [hst]; simp
          clear hst HT HF
          have HTT : Hid _ := HTe
          clear HTe
          go_wp2_with fail
          go_quiet (fail)
          have BQ : Hid (Below w.heap.size w (World.drewN wr nq)) := B.out.trans ⟨rfl, rfl, rfl, Nat.le_refl _, fun _ _ => rfl⟩
          generalize World.drewN wr nq = wq at *
          go_wp2_with fail
          go_roundg (gk - 1)
          case measure => omega
          case rel => exact ⟨i + 1, by omega, by go_num, BQ.out, HTT.out⟩
        · have HFe := HF.out hst
          have h2 : (s.toList == t.toList) = false := toList_ne hst
          have HFF : Hid _ := HFe
          clear hst HT HF HFe
          go_wp2_with fail
          go_quiet (fail)
          have BQ : Hid (Below w.heap.size w (World.drewN wr nq)) := B.out.trans ⟨rfl, rfl, rfl, Nat.le_refl _, fun _ _ => rfl⟩
          generalize World.drewN wr nq = wq at *
          go_wp2_with fail
          go_ret
          exact ⟨by rw [HFF.out]; rfl, BQ.out⟩
      · have il : ¬ (i : Int) < (l.length : Int) := by omega
        have HTT : Hid (decide (l = m) = true) := by
          have h := HN.out
          have he := HE.out
          rw [List.take_of_length_le (by omega), List.take_of_length_le (by omega)] at h
          exact decide_eq_true h
        go_wp2_with fail
        go_ret
        exact ⟨by rw [HTT.out]; rfl, B.out⟩
  · have hne : ((l.length : Int) != (m.length : Int)) = true := by simp [bne]; omega
    have HF : Hid (decide (l = m) = false) := decide_eq_false (fun e => hlen (by rw [e]))
    clear hs hm hlen
    go_enter Tryd.func7, Tryd.ntmps7
    go_wp2_with fail
    go_ret
    exact ⟨by rw [HF.out]; rfl, Below.refl _ _⟩

end Go.Proofs.YteomefhjglnghaaDoor
