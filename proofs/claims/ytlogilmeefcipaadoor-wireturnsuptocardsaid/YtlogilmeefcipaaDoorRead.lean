/- The walks of wire's numberUpTo and ReadNumber, and of the document's ReadNumber and Digits. -/
import Derived.Test.YtlogilmeefcipaaDoorNum
import Derived.Lib.OthersKept
import Derived.Laws.RangeAny
set_option linter.unusedSimpArgs false
set_option linter.unusedVariables false
set_option maxRecDepth 100000
namespace Go.Proofs.YtlogilmeefcipaaDoor
open Go.RowKit Go.Deep Go.PlainAid

theorem bv_take_succ (l : List UInt8) (k : Nat) (h : k < l.length) : bv (l.take (k + 1)) = 10 * bv (l.take k) + (l[k].toNat - 48) := by
  rw [List.take_succ_eq_append_getElem h, bv_append]
  simp [bv]
  omega
theorem bv_take_le (l : List UInt8) (k : Nat) : bv (l.take k) ≤ bv l := by
  have e := bv_append (l.take k) (l.drop k)
  rw [List.take_append_drop] at e
  rw [e]
  have : bv (l.take k) * 1 ≤ bv (l.take k) * 10 ^ (l.drop k).length := Nat.mul_le_mul_left _ (Nat.pow_pos (by omega))
  omega
/-- What a text is told to be, as a number up to m: the number, and what is wrong. -/
def upV (l : List UInt8) (m : Nat) : Nat × Nat := if isNum l then (if bv l ≤ m then (bv l, 0) else (0, 4)) else (0, 2)
theorem upV_bad {l : List UInt8} {m : Nat} (h : isNum l = false) : upV l m = (0, 2) := by simp [upV, h]
theorem upV_ok {l : List UInt8} {m : Nat} (h : isNum l = true) (hm : bv l ≤ m) : upV l m = (bv l, 0) := by simp [upV, h, hm]
theorem upV_big {l : List UInt8} {m : Nat} (h : isNum l = true) (hm : m < bv l) : upV l m = (0, 4) := by simp [upV, h, show ¬ bv l ≤ m by omega]
/-- How far the reading has come: n is the number so far, or both are above m. -/
structure UpSt (l : List UInt8) (m pos n : Nat) : Prop where
  le : pos ≤ l.length
  dig : allDig (l.take pos) = true
  val : n = bv (l.take pos) ∨ (m < n ∧ m < bv (l.take pos))
  n9 : n ≤ 10 * m + 9
theorem UpSt.next {l : List UInt8} {m pos n : Nat} (h : UpSt l m pos n) (hp : pos < l.length) (hd : 48 ≤ l[pos].toNat ∧ l[pos].toNat ≤ 57) (hn : n ≤ m) : UpSt l m (pos + 1) (10 * n + (l[pos].toNat - 48)) := by
  refine ⟨by omega, allDig_succ l pos hp h.dig hd, Or.inl ?_, by omega⟩
  rw [bv_take_succ l pos hp]
  have := h.val
  omega
theorem UpSt.stay {l : List UInt8} {m pos n : Nat} (h : UpSt l m pos n) (hp : pos < l.length) (hd : 48 ≤ l[pos].toNat ∧ l[pos].toNat ≤ 57) (hn : ¬ n ≤ m) : UpSt l m (pos + 1) n := by
  refine ⟨by omega, allDig_succ l pos hp h.dig hd, Or.inr ⟨by omega, ?_⟩, h.n9⟩
  rw [bv_take_succ l pos hp]
  have := h.val
  omega
theorem UpSt.done {l : List UInt8} {m n : Nat} (h : UpSt l m l.length n) : allDig l = true ∧ (n ≤ m → bv l = n) ∧ (m < n → m < bv l) := by
  have d := h.dig
  have v := h.val
  rw [List.take_length] at d v
  refine ⟨d, ?_, ?_⟩ <;> omega
theorem isNum_first {l : List UInt8} (h0 : 0 < l.length) (hd : allDig l = true) (hh : ¬ (l[0].toNat = 48 ∧ l ≠ [48])) : isNum l = true := by
  match l, h0 with
  | c :: r, _ =>
    simp only [isNum, hd, Bool.true_and, Bool.or_eq_true, beq_iff_eq, Bool.and_eq_true, bne_iff_ne, ne_eq, List.head?_cons, Option.some.injEq]
    by_cases hc : c = 48
    · refine Or.inl ?_
      by_cases hr : c :: r = [48]
      · exact hr
      · exact absurd ⟨by simp [hc], hr⟩ hh
    · exact Or.inr ⟨by simp, hc⟩
theorem isNum_lead {l : List UInt8} (h0 : 0 < l.length) (hh : l[0].toNat = 48 ∧ l ≠ [48]) : isNum l = false := by
  match l, h0 with
  | c :: r, _ =>
    have hc : c = 48 := UInt8.toNat_inj.1 (by simpa using hh.1)
    have hn := hh.2
    simp only [isNum, List.head?_cons, hc]
    rw [hc] at hn
    have : ((48 :: r : List UInt8) == [48]) = false := by simpa using hn
    simp [this]

set_option maxHeartbeats 1000000 in
theorem upTo_any (s : ByteArray) (m : Nat) (hs : s.size < 140737488355328) (hm : m ≤ 922337203685477579) (w : World) :
    Calls Tryd.prog 26 #[.string s, .int .i64 (m : Int)] w fun e w' => e = .returned (.tuple #[.int .i64 ((upV s.data.toList m).1 : Int), .int .i64 ((upV s.data.toList m).2 : Int)]) ∧ Below w.heap.size w w' := by
  have hb := get_bt s
  go_enter Tryd.func26, Tryd.ntmps26
  by_cases h2 : s.toList = []
  · have hz : s.size = 0 := by
      rw [ByteArray.toList_eq] at h2
      rw [← size_list, h2]; rfl
    have HR : Hid (upV s.data.toList m = (0, 2)) := upV_bad (isNum_nil h2)
    go_wp2_with fail
    go_ret2
    exact ⟨by rw [HR.out]; rfl, Below.refl _ _⟩
  have hpos : 0 < s.size := by
    have h3 := h2
    rw [ByteArray.toList_eq] at h3
    exact List.length_pos_iff.2 h3
  have e0 := bt_list s 0 hpos
  by_cases hlead : bt s 0 = 48 ∧ s.toList ≠ [48]
  · have HR : Hid (upV s.data.toList m = (0, 2)) := upV_bad (isNum_lead (l := s.data.toList) hpos ⟨by rw [hlead.1] at e0; exact_mod_cast e0.symm, by rw [← ByteArray.toList_eq]; exact hlead.2⟩)
    obtain ⟨l1, l2⟩ := hlead
    have l3 : (s.toList == [48]) = false := beq_eq_false_iff_ne.2 l2
    have l4 : s.toList.isEmpty = false := by simpa using h2
    clear e0 l2 h2
    go_wp2_with fail
    go_ret2
    exact ⟨by rw [HR.out]; rfl, Below.refl _ _⟩
  have HF : Hid (allDig s.data.toList = true → isNum s.data.toList = true) := fun hd => isNum_first (l := s.data.toList) hpos hd (fun ⟨a, b⟩ => hlead ⟨by rw [e0]; exact_mod_cast a, by rw [ByteArray.toList_eq]; exact b⟩)
  have key : (bt s 0 == 48) = false ∨ ((bt s 0 == 48) = true ∧ (s.toList == [48]) = true) := by
    simp only [not_and, ne_eq, Decidable.not_not] at hlead
    by_cases h : bt s 0 = 48
    · exact Or.inr ⟨by simp [h], by simp [hlead h]⟩
    · exact Or.inl (by simpa using h)
  have l4 : s.toList.isEmpty = false := by simpa using h2
  have HL : Hid (s.data.toList.length = s.size) := rfl
  have i0 : Hid ((w.iter s 0).heap[w.heap.size]? = some (.stringIter s 0)) := World.iter_heap w s 0
  have i1 : Hid (Below w.heap.size w (w.iter s 0)) := (Below.refl _ w).alloc (Nat.le_refl _) _
  clear e0 h2 hlead
  rcases key with k1 | ⟨k1, k2⟩
  · go_wp2_with fail
    go_loopg [6, 8] s.size (fun gk v6 v8 wr => ∃ (pos n : Nat), pos + gk = s.size ∧ v6 = .int .i64 (n : Int) ∧ UpSt s.data.toList m pos n ∧ wr.heap[w.heap.size]? = some (.stringIter s pos) ∧ Below w.heap.size w wr)
    case atStart => exact ⟨0, 0, by omega, rfl, ⟨by omega, rfl, Or.inl rfl, by omega⟩, i0.out, i1.out⟩
    case round =>
      obtain ⟨pos, n, hpg, rfl, hst, hit, hB⟩ := hrel
      have ST : Hid (UpSt s.data.toList m pos n) := hst
      have n9 := hst.n9
      have B : Hid (Below w.heap.size w wr) := hB
      have IT : Hid (wr.heap[w.heap.size]? = some (.stringIter s pos)) := hit
      clear hst hB
      by_cases hp : pos < s.size
      · have hnx : ∀ ty, (Instr.next (.pointer (some ⟨w.heap.size, 0, none⟩)) true ty).run Tryd.prog wr = _ := fun ty => Lib.run_next_any_at wr (w.heap.size) s pos ty hit hp
        have eb := bt_list s pos hp
        have HN : Hid (¬ (48 ≤ (s.data.toList[pos]'hp).toNat ∧ (s.data.toList[pos]'hp).toNat ≤ 57) → upV s.data.toList m = (0, 2)) := fun h => upV_bad (isNum_bad _ pos hp (by omega))
        have HX : Hid (48 ≤ (s.data.toList[pos]'hp).toNat ∧ (s.data.toList[pos]'hp).toNat ≤ 57 → n ≤ m → UpSt s.data.toList m (pos + 1) (10 * n + ((s.data.toList[pos]'hp).toNat - 48))) := fun h1 h2 => ST.out.next hp h1 h2
        have HY : Hid (48 ≤ (s.data.toList[pos]'hp).toNat ∧ (s.data.toList[pos]'hp).toNat ≤ 57 → ¬ n ≤ m → UpSt s.data.toList m (pos + 1) n) := fun h1 h2 => ST.out.stay hp h1 h2
        have ec : (s[pos]'hp) = (s.data.toList[pos]'hp) := rfl
        by_cases ha : (s[pos]'hp).toNat < 128
        · rw [decode_ascii s pos hp ha] at hnx
          simp only [ec] at hnx ha
          have B2 : Hid (Below w.heap.size w (wr.iterAt w.heap.size s (pos + 1))) := Lib.below_iterAt B.out (Nat.le_refl _) s (pos + 1)
          have IT2 : Hid ((wr.iterAt w.heap.size s (pos + 1)).heap[w.heap.size]? = some (.stringIter s (pos + 1))) := Lib.iterAt_heap wr w.heap.size s pos (pos + 1) hit
          clear hit ec eb
          generalize (s.data.toList[pos]'hp).toNat = c at *
          by_cases hc1 : c < 48
          · have HR : Hid (upV s.data.toList m = (0, 2)) := HN.out (by omega)
            have hc1' : (c : Int) < 48 := by omega
            go_wp2_with fail
            go_ret2
            exact ⟨by rw [HR.out]; rfl, B2.out⟩
          by_cases hc2 : 57 < c
          · have HR : Hid (upV s.data.toList m = (0, 2)) := HN.out (by omega)
            have hc2' : (57 : Int) < (c : Int) := by omega
            have hc1' : ¬ (c : Int) < 48 := by omega
            go_wp2_with fail
            go_ret2
            exact ⟨by rw [HR.out]; rfl, B2.out⟩
          have hc2' : ¬ (57 : Int) < (c : Int) := by omega
          have hc1' : ¬ (c : Int) < 48 := by omega
          by_cases hnm : n ≤ m
          · have HS : Hid (UpSt s.data.toList m (pos + 1) (10 * n + (c - 48))) := HX.out (by omega) hnm
            have hnm' : (n : Int) ≤ (m : Int) := by omega
            go_wp2_with fail
            go_roundg (gk - 1)
            case measure => omega
            case rel => exact ⟨pos + 1, 10 * n + (c - 48), by omega, by go_num, HS.out, IT2.out, B2.out⟩
          · have HS : Hid (UpSt s.data.toList m (pos + 1) n) := HY.out (by omega) hnm
            have hnm' : ¬ (n : Int) ≤ (m : Int) := by omega
            go_wp2_with fail
            go_roundg (gk - 1)
            case measure => omega
            case rel => exact ⟨pos + 1, n, by omega, by go_num, HS.out, IT2.out, B2.out⟩
        · have hd := decode_high s pos hp (by omega)
          have hle := decode_le s pos
          rw [ec] at ha
          have HR : Hid (upV s.data.toList m = (0, 2)) := HN.out (by omega)
          have B2 : Hid (Below w.heap.size w (wr.iterAt w.heap.size s (pos + (Utf8.decode s pos).2))) := Lib.below_iterAt B.out (Nat.le_refl _) s _
          have hd1 := hd.1
          clear hit ec eb hd
          generalize (Utf8.decode s pos).2 = wd at *
          generalize (Utf8.decode s pos).1 = c at *
          have hc2' : (57 : Int) < (c : Int) := by omega
          have hc1' : ¬ (c : Int) < 48 := by omega
          go_wp2_with fail
          go_ret2
          exact ⟨by rw [HR.out]; rfl, B2.out⟩
      · have hnx : ∀ ty, (Instr.next (.pointer (some ⟨w.heap.size, 0, none⟩)) true ty).run Tryd.prog wr = _ := fun ty => Lib.run_next_end_at wr (w.heap.size) s pos ty hit hp
        obtain rfl : pos = s.size := by have := ST.out.le; have := HL.out; omega
        clear hit
        by_cases hnm : n ≤ m
        · have HR : Hid (upV s.data.toList m = (n, 0)) := by
            obtain ⟨d, e1, e2⟩ := UpSt.done ST.out
            have := upV_ok (m := m) (HF.out d) (by rw [e1 hnm]; exact hnm)
            rw [e1 hnm] at this
            exact this
          have hnm' : ¬ (m : Int) < (n : Int) := by omega
          go_wp2_with fail
          go_ret2
          exact ⟨by rw [HR.out]; rfl, B.out⟩
        · have HR : Hid (upV s.data.toList m = (0, 4)) := by
            obtain ⟨d, e1, e2⟩ := UpSt.done ST.out
            exact upV_big (HF.out d) (e2 (by omega))
          have hnm' : (m : Int) < (n : Int) := by omega
          go_wp2_with fail
          go_ret2
          exact ⟨by rw [HR.out]; rfl, B.out⟩
  · go_wp2_with fail
    go_loopg [6, 8] s.size (fun gk v6 v8 wr => ∃ (pos n : Nat), pos + gk = s.size ∧ v6 = .int .i64 (n : Int) ∧ UpSt s.data.toList m pos n ∧ wr.heap[w.heap.size]? = some (.stringIter s pos) ∧ Below w.heap.size w wr)
    case atStart => exact ⟨0, 0, by omega, rfl, ⟨by omega, rfl, Or.inl rfl, by omega⟩, i0.out, i1.out⟩
    case round =>
      obtain ⟨pos, n, hpg, rfl, hst, hit, hB⟩ := hrel
      have ST : Hid (UpSt s.data.toList m pos n) := hst
      have n9 := hst.n9
      have B : Hid (Below w.heap.size w wr) := hB
      have IT : Hid (wr.heap[w.heap.size]? = some (.stringIter s pos)) := hit
      clear hst hB
      by_cases hp : pos < s.size
      · have hnx : ∀ ty, (Instr.next (.pointer (some ⟨w.heap.size, 0, none⟩)) true ty).run Tryd.prog wr = _ := fun ty => Lib.run_next_any_at wr (w.heap.size) s pos ty hit hp
        have eb := bt_list s pos hp
        have HN : Hid (¬ (48 ≤ (s.data.toList[pos]'hp).toNat ∧ (s.data.toList[pos]'hp).toNat ≤ 57) → upV s.data.toList m = (0, 2)) := fun h => upV_bad (isNum_bad _ pos hp (by omega))
        have HX : Hid (48 ≤ (s.data.toList[pos]'hp).toNat ∧ (s.data.toList[pos]'hp).toNat ≤ 57 → n ≤ m → UpSt s.data.toList m (pos + 1) (10 * n + ((s.data.toList[pos]'hp).toNat - 48))) := fun h1 h2 => ST.out.next hp h1 h2
        have HY : Hid (48 ≤ (s.data.toList[pos]'hp).toNat ∧ (s.data.toList[pos]'hp).toNat ≤ 57 → ¬ n ≤ m → UpSt s.data.toList m (pos + 1) n) := fun h1 h2 => ST.out.stay hp h1 h2
        have ec : (s[pos]'hp) = (s.data.toList[pos]'hp) := rfl
        by_cases ha : (s[pos]'hp).toNat < 128
        · rw [decode_ascii s pos hp ha] at hnx
          simp only [ec] at hnx ha
          have B2 : Hid (Below w.heap.size w (wr.iterAt w.heap.size s (pos + 1))) := Lib.below_iterAt B.out (Nat.le_refl _) s (pos + 1)
          have IT2 : Hid ((wr.iterAt w.heap.size s (pos + 1)).heap[w.heap.size]? = some (.stringIter s (pos + 1))) := Lib.iterAt_heap wr w.heap.size s pos (pos + 1) hit
          clear hit ec eb
          generalize (s.data.toList[pos]'hp).toNat = c at *
          by_cases hc1 : c < 48
          · have HR : Hid (upV s.data.toList m = (0, 2)) := HN.out (by omega)
            have hc1' : (c : Int) < 48 := by omega
            go_wp2_with fail
            go_ret2
            exact ⟨by rw [HR.out]; rfl, B2.out⟩
          by_cases hc2 : 57 < c
          · have HR : Hid (upV s.data.toList m = (0, 2)) := HN.out (by omega)
            have hc2' : (57 : Int) < (c : Int) := by omega
            have hc1' : ¬ (c : Int) < 48 := by omega
            go_wp2_with fail
            go_ret2
            exact ⟨by rw [HR.out]; rfl, B2.out⟩
          have hc2' : ¬ (57 : Int) < (c : Int) := by omega
          have hc1' : ¬ (c : Int) < 48 := by omega
          by_cases hnm : n ≤ m
          · have HS : Hid (UpSt s.data.toList m (pos + 1) (10 * n + (c - 48))) := HX.out (by omega) hnm
            have hnm' : (n : Int) ≤ (m : Int) := by omega
            go_wp2_with fail
            go_roundg (gk - 1)
            case measure => omega
            case rel => exact ⟨pos + 1, 10 * n + (c - 48), by omega, by go_num, HS.out, IT2.out, B2.out⟩
          · have HS : Hid (UpSt s.data.toList m (pos + 1) n) := HY.out (by omega) hnm
            have hnm' : ¬ (n : Int) ≤ (m : Int) := by omega
            go_wp2_with fail
            go_roundg (gk - 1)
            case measure => omega
            case rel => exact ⟨pos + 1, n, by omega, by go_num, HS.out, IT2.out, B2.out⟩
        · have hd := decode_high s pos hp (by omega)
          have hle := decode_le s pos
          rw [ec] at ha
          have HR : Hid (upV s.data.toList m = (0, 2)) := HN.out (by omega)
          have B2 : Hid (Below w.heap.size w (wr.iterAt w.heap.size s (pos + (Utf8.decode s pos).2))) := Lib.below_iterAt B.out (Nat.le_refl _) s _
          have hd1 := hd.1
          clear hit ec eb hd
          generalize (Utf8.decode s pos).2 = wd at *
          generalize (Utf8.decode s pos).1 = c at *
          have hc2' : (57 : Int) < (c : Int) := by omega
          have hc1' : ¬ (c : Int) < 48 := by omega
          go_wp2_with fail
          go_ret2
          exact ⟨by rw [HR.out]; rfl, B2.out⟩
      · have hnx : ∀ ty, (Instr.next (.pointer (some ⟨w.heap.size, 0, none⟩)) true ty).run Tryd.prog wr = _ := fun ty => Lib.run_next_end_at wr (w.heap.size) s pos ty hit hp
        obtain rfl : pos = s.size := by have := ST.out.le; have := HL.out; omega
        clear hit
        by_cases hnm : n ≤ m
        · have HR : Hid (upV s.data.toList m = (n, 0)) := by
            obtain ⟨d, e1, e2⟩ := UpSt.done ST.out
            have := upV_ok (m := m) (HF.out d) (by rw [e1 hnm]; exact hnm)
            rw [e1 hnm] at this
            exact this
          have hnm' : ¬ (m : Int) < (n : Int) := by omega
          go_wp2_with fail
          go_ret2
          exact ⟨by rw [HR.out]; rfl, B.out⟩
        · have HR : Hid (upV s.data.toList m = (0, 4)) := by
            obtain ⟨d, e1, e2⟩ := UpSt.done ST.out
            exact upV_big (HF.out d) (e2 (by omega))
          have hnm' : (m : Int) < (n : Int) := by omega
          go_wp2_with fail
          go_ret2
          exact ⟨by rw [HR.out]; rfl, B.out⟩
end Go.Proofs.YtlogilmeefcipaaDoor
