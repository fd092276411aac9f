/- Plain: a text of digits, read nine at a time, or one at a time, from its end. -/
import Derived.Test.YtlgcnjinmcgacaaDoorIs
set_option linter.unusedSimpArgs false
set_option linter.unusedVariables false
namespace Go.Proofs.YtlgcnjinmcgacaaDoor
open Go.PlainAid

/-- The bytes from lo to below i. -/
def seg (l : List UInt8) (lo i : Nat) : List UInt8 := (l.drop lo).take (i - lo)
theorem seg_nil (l : List UInt8) (lo : Nat) : seg l lo lo = [] := by simp [seg]
theorem seg_length (l : List UInt8) (lo i : Nat) (h1 : lo ≤ i) (h2 : i ≤ l.length) : (seg l lo i).length = i - lo := by
  rw [seg, List.length_take, List.length_drop]; omega
theorem seg_succ (l : List UInt8) (lo i : Nat) (h1 : lo ≤ i) (h2 : i < l.length) : seg l lo (i + 1) = seg l lo i ++ [l[i]] := by
  unfold seg
  rw [show i + 1 - lo = (i - lo) + 1 by omega, List.take_succ_eq_append_getElem (by rw [List.length_drop]; omega)]
  congr 2
  rw [List.getElem_drop]
  congr 1
  omega
theorem seg_drop (l : List UInt8) (lo hi : Nat) (h : lo ≤ hi) : l.drop lo = seg l lo hi ++ l.drop hi := by
  have : l.drop hi = (l.drop lo).drop (hi - lo) := by rw [List.drop_drop]; congr 1; omega
  rw [this, seg, List.take_append_drop]
theorem allDig_seg (l : List UInt8) (lo i : Nat) (h : allDig l = true) : allDig (seg l lo i) = true := by
  simp only [allDig, List.all_eq_true] at *
  intro c hc
  exact h c (List.mem_of_mem_drop (List.mem_of_mem_take hc))
theorem seg_lt (l : List UInt8) (lo i : Nat) (h : allDig l = true) (h1 : lo ≤ i) (h2 : i ≤ l.length) (h3 : i ≤ lo + 9) : bv (seg l lo i) < 1000000000 := by
  have := bv_lt (seg l lo i) (allDig_seg l lo i h)
  rw [seg_length l lo i h1 h2] at this
  have h4 : 10 ^ (i - lo) ≤ 10 ^ 9 := Nat.pow_le_pow_right (by omega) (by omega)
  omega
theorem seg_lt' (l : List UInt8) (lo i : Nat) (h : allDig l = true) (h1 : lo ≤ i) (h2 : i ≤ l.length) (h3 : i ≤ lo + 8) : bv (seg l lo i) < 100000000 := by
  have := bv_lt (seg l lo i) (allDig_seg l lo i h)
  rw [seg_length l lo i h1 h2] at this
  have h4 : 10 ^ (i - lo) ≤ 10 ^ 8 := Nat.pow_le_pow_right (by omega) (by omega)
  omega
theorem bv_seg_succ (s : ByteArray) (lo i : Nat) (h1 : lo ≤ i) (h2 : i < s.size) (hd : 48 ≤ bt s i) : ((bv (seg s.data.toList lo (i + 1)) : Nat) : Int) = (bv (seg s.data.toList lo i) : Int) * 10 + (bt s i - 48) := by
  rw [seg_succ _ lo i h1 h2, bv_snoc, bt_list s i h2]
  rw [bt_list s i h2] at hd
  push_cast
  omega
theorem dig_at (s : ByteArray) (i : Nat) (h : i < s.size) (ha : allDig s.data.toList = true) : 48 ≤ bt s i ∧ bt s i ≤ 57 := by
  have := (List.all_eq_true.1 ha) (s.data.toList[i]'h) (List.getElem_mem _)
  simp only [isDig, Bool.and_eq_true, decide_eq_true_eq] at this
  rw [bt_list s i h]; omega
/-- One piece of nine more. -/
theorem nine_step (l : List UInt8) (j : Nat) (h : 9 * j < l.length) (r : List Nat) (hr : r.length = j) (hv : vl 1000000000 r = bv (l.drop (l.length - 9 * j))) :
    vl 1000000000 (r ++ [bv (seg l (l.length - 9 * (j + 1)) (l.length - 9 * j))]) = bv (l.drop (l.length - 9 * (j + 1))) := by
  have e : (l.drop (l.length - 9 * j)).length = 9 * j := by rw [List.length_drop]; omega
  rw [vl_snoc, hr, hv, seg_drop l (l.length - 9 * (j + 1)) (l.length - 9 * j) (by omega), bv_append, e]
  have h2 : (10 : Nat) ^ (9 * j) = 1000000000 ^ j := by rw [Nat.pow_mul]
  rw [h2, Nat.mul_comm (1000000000 ^ j), Nat.add_comm]
end Go.Proofs.YtlgcnjinmcgacaaDoor
