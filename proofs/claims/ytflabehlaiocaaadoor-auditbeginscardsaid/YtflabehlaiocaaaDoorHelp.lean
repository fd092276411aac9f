/- The walks of the laws' own helpers: small, sum, product; texts of numbers. -/
import Derived.Test.YtflabehlaiocaaaDoorFace
set_option linter.unusedSimpArgs false
set_option linter.unusedVariables false
namespace Go.Proofs.YtflabehlaiocaaaDoor
open Go.RowKit Go.Deep Go.PlainAid

/-- The text of a number. -/
def T (n : Nat) : ByteArray := ⟨(txt n).toArray⟩
theorem T_list (n : Nat) : (T n).data.toList = txt n := by simp [T]
theorem T_size (n : Nat) : (T n).size = (txt n).length := by rw [← size_list, T_list]
theorem T_bv (n : Nat) : bv (T n).data.toList = n := by rw [T_list, bv_txt]
theorem T_inj {n m : Nat} (h : T n = T m) : n = m := by
  have : txt n = txt m := by rw [← T_list, h, T_list]
  exact txt_inj this
theorem T_wr (n : Nat) (h : (txt n).length ≤ 4000) : wrT (T n) = 0 := wrT_ok (by rw [T_list]; exact isNum_txt n) (by rw [T_size]; omega)
theorem T_of (s : ByteArray) (h : isNum s.data.toList = true) : s = T (bv s.data.toList) := by
  have := txt_bv _ h
  cases s with
  | mk d => simp [T, this]
theorem T_lt (s : ByteArray) (k : Nat) (h : isNum s.data.toList = true) (hs : s.size ≤ k) : bv s.data.toList < 10 ^ k := by
  refine Nat.lt_of_lt_of_le (bv_lt _ (isNum_all h)) ?_
  rw [size_list]; exact Nat.pow_le_pow_right (by omega) hs

/-- Are all of them numbers of so many digits at most? -/
def smallB (k : Nat) (s : ByteArray) : Bool := isNum s.data.toList && decide (s.size ≤ k)
theorem small_one {ps : List ByteArray} {K : Nat} (h : ps.all (smallB K) = true) {s : ByteArray} (hs : s ∈ ps) : isNum s.data.toList = true ∧ s.size ≤ K := by
  have := (List.all_eq_true.1 h) s hs
  simpa [smallB] using this
/-- A row of texts that was just made. -/
theorem SRow.new (w : World) (t : TypeId) (ps : List ByteArray) : SRow (w.alloc (.cells (ps.map Value.string).toArray t)) (some ⟨w.heap.size, 0, none⟩) ps := by
  intro i hi
  refine ⟨w.heap.size, 0, rfl, ?_⟩
  have h0 : (w.alloc (.cells (ps.map Value.string).toArray t)).heap[w.heap.size]? = some (.cells (ps.map Value.string).toArray t) := by
    show (w.heap.push _)[w.heap.size]? = _
    simp
  generalize w.alloc (.cells (ps.map Value.string).toArray t) = W at *
  generalize w.heap.size = g at *
  simp [World.cell?, h0, hi]

theorem zeroT : (⟨#[48]⟩ : ByteArray) = T 0 := rfl
theorem oneT : (⟨#[49]⟩ : ByteArray) = T 1 := by
  have : txt 1 = [49] := by simp [txt, dg_pos (show 2 ≤ 10 by omega) (show (1 : Nat) ≠ 0 by omega), dg_zero, chars]
  simp [T, this]
theorem twoT : (⟨#[50]⟩ : ByteArray) = T 2 := by
  have : txt 2 = [50] := by simp [txt, dg_pos (show 2 ≤ 10 by omega) (show (2 : Nat) ≠ 0 by omega), dg_zero, chars]
  simp [T, this]
theorem len_of_lt {n : Nat} (k : Nat) (hk : 1 ≤ k) (h : n < 10 ^ k) (h4 : k ≤ 4000) : (txt n).length ≤ 4000 := Nat.le_trans (txt_len_le n k hk h) h4
end Go.Proofs.YtflabehlaiocaaaDoor
