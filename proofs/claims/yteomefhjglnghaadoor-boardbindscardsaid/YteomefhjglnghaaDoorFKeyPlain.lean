/- Plain: the bytes of a piece gathered into words one by one; the digest of a text. No Go text is walked here. -/
import Derived.Test.YteomefhjglnghaaDoorFAddPlain
import Derived.Test.YteomefhjglnghaaDoorFEnd
set_option linter.unusedSimpArgs false
set_option linter.unusedVariables false
set_option maxRecDepth 100000
namespace Go.Proofs.YteomefhjglnghaaDoor.F
open Go.RowKit

/-- The first i bytes gathered into words. -/
def accTo (p : List UInt8) : Nat → List UInt32
  | 0 => List.replicate 16 0
  | i + 1 => (accTo p i).set (i / 4) (UInt32.ofNat (((accTo p i).getD (i / 4) 0).toNat + (p.getD i 0).toNat * 256 ^ (i % 4)))
theorem accTo_length (p : List UInt8) (i : Nat) : (accTo p i).length = 16 := by
  induction i with
  | zero => rfl
  | succ i ih => simp [accTo, ih]
theorem getD_take (p : List UInt8) (i j : Nat) : (p.take i).getD j 0 = if j < i then p.getD j 0 else 0 := by
  simp only [List.getD_eq_getElem?_getD, List.getElem?_take]
  split <;> rfl
def wordN (p : List UInt8) (j : Nat) : UInt32 := w4 (p.getD (4 * j) 0) (p.getD (4 * j + 1) 0) (p.getD (4 * j + 2) 0) (p.getD (4 * j + 3) 0)
theorem wordsL_get (p : List UInt8) (j : Nat) (hj : j < 16) : (wordsL p)[j]? = some (wordN p j) := by simp [wordsL, wordN, hj]
theorem wordN_other (p : List UInt8) (i j : Nat) (h : j ≠ i / 4) : wordN (p.take (i + 1)) j = wordN (p.take i) j := by
  simp only [wordN, getD_take]
  have e : ∀ k, k < 4 → (if 4 * j + k < i + 1 then p.getD (4 * j + k) 0 else 0) = (if 4 * j + k < i then p.getD (4 * j + k) 0 else 0) := by
    intro k hk
    by_cases h1 : 4 * j + k < i
    · rw [if_pos h1, if_pos (by omega)]
    · rw [if_neg h1, if_neg (by omega)]
  have e0 := e 0 (by omega)
  rw [Nat.add_zero] at e0
  rw [e0, e 1 (by omega), e 2 (by omega), e 3 (by omega)]
theorem wordN_same (p : List UInt8) (i : Nat) : wordN (p.take (i + 1)) (i / 4) = UInt32.ofNat ((wordN (p.take i) (i / 4)).toNat + (p.getD i 0).toNat * 256 ^ (i % 4)) := by
  have hlt : i % 4 < 4 := Nat.mod_lt _ (by omega)
  have hi : i = 4 * (i / 4) + i % 4 := by omega
  generalize hq : i / 4 = q at *
  generalize hr : i % 4 = r at *
  subst hi
  clear hq hr
  simp only [wordN, getD_take]
  obtain rfl | rfl | rfl | rfl : r = 0 ∨ r = 1 ∨ r = 2 ∨ r = 3 := by omega
  · rw [if_pos (by omega), if_neg (by omega), if_neg (by omega), if_neg (by omega), if_neg (by omega), if_neg (by omega), if_neg (by omega), if_neg (by omega), w4_toNat, w4]
    congr 1; simp
  · rw [if_pos (by omega), if_pos (by omega), if_neg (by omega), if_neg (by omega), if_pos (by omega), if_neg (by omega), if_neg (by omega), if_neg (by omega), w4_toNat, w4]
    congr 1; simp; omega
  · rw [if_pos (by omega), if_pos (by omega), if_pos (by omega), if_neg (by omega), if_pos (by omega), if_pos (by omega), if_neg (by omega), if_neg (by omega), w4_toNat, w4]
    congr 1; simp; omega
  · rw [if_pos (by omega), if_pos (by omega), if_pos (by omega), if_pos (by omega), if_pos (by omega), if_pos (by omega), if_pos (by omega), if_neg (by omega), w4_toNat, w4]
    congr 1; simp; omega
theorem accTo_words (p : List UInt8) (hp : p.length ≤ 64) : ∀ i, i ≤ p.length → accTo p i = wordsL (p.take i)
  | 0, _ => by rw [accTo, List.take_zero]; decide
  | i + 1, hi => by
    rw [accTo, accTo_words p hp i (by omega)]
    apply List.ext_getElem?
    intro j
    rw [List.getElem?_set, wordsL_length]
    by_cases hj : j < 16
    · by_cases h : i / 4 = j
      · subst h
        rw [if_pos rfl, if_pos hj, wordsL_get _ _ hj, wordN_same, List.getD_eq_getElem?_getD, wordsL_get _ _ hj]; rfl
      · rw [if_neg h, wordsL_get _ _ hj, wordsL_get _ _ hj, wordN_other p i j (by omega)]
    · rw [if_neg (by omega), List.getElem?_eq_none (by rw [wordsL_length]; omega), List.getElem?_eq_none (by rw [wordsL_length]; omega)]
theorem wordsL_pad (p : List UInt8) : wordsL (pad64 p) = wordsL p := by
  have e : ∀ k, (pad64 p).getD k 0 = p.getD k 0 := by
    intro k
    simp only [pad64, List.getD_eq_getElem?_getD, List.getElem?_append]
    by_cases h : k < p.length
    · rw [if_pos h]
    · rw [if_neg h, List.getElem?_eq_none (l := p) (by omega), List.getElem?_replicate]
      split <;> rfl
  simp only [wordsL, e]
/-- How many bytes of a text lie in its piece k. -/
theorem acc_piece (T : List UInt8) (k : Nat) : accTo ((T.drop (64 * k)).take 64) ((T.drop (64 * k)).take 64).length = wordsL (pieceAt T k) := by
  rw [accTo_words _ (by simp; omega) _ (Nat.le_refl _), List.take_length, pieceAt, wordsL_pad]

/-- The digest of a text, by the words that it begins with. -/
def digL (h0 : List UInt32) (T : List UInt8) : List UInt8 := outL (pressL (hashTo h0 T ((T.length - 1) / 64)) (wordsL (pieceAt T ((T.length - 1) / 64))) T.length true)
theorem digL_length (h0 : List UInt32) (T : List UInt8) : (digL h0 T).length = 32 := outL_length _
theorem Rep.dig {h0 : List UInt32} {T : List UInt8} {f : Fol} (r : Rep h0 T f) : outL (pressL f.h (wordsL f.p) f.n true) = digL h0 T := by
  rw [r.h, r.p, r.n]; rfl
/-- The reference's words behind k pieces of P. -/
def refH (h0 : List UInt32) (T : List UInt8) (P : Nat) : Nat → List UInt32
  | 0 => h0
  | k + 1 => pressL (refH h0 T P k) (wordsL (pieceAt T k)) (min (64 * k + 64) T.length) (decide (k + 1 = P))
theorem refH_length (h0 : List UInt32) (hh : h0.length = 8) (T : List UInt8) (P : Nat) : ∀ k, (refH h0 T P k).length = 8
  | 0 => hh
  | k + 1 => by rw [refH, pressL_length, refH_length h0 hh T P k]
theorem refH_eq (h0 : List UInt32) (T : List UInt8) (P : Nat) (hP : P = (T.length - 1) / 64 + 1) : ∀ k, k + 1 ≤ P → refH h0 T P k = hashTo h0 T k
  | 0, _ => rfl
  | k + 1, h => by
    rw [refH, refH_eq h0 T P hP k (by omega), hashTo, Nat.min_eq_left (by omega), show decide (k + 1 = P) = false from decide_eq_false (by omega), show 64 * k + 64 = 64 * (k + 1) by omega]
theorem refH_all (h0 : List UInt32) (T : List UInt8) (P : Nat) (hP : P = (T.length - 1) / 64 + 1) : outL (refH h0 T P P) = digL h0 T := by
  obtain ⟨k, rfl⟩ : ∃ k, P = k + 1 := ⟨(T.length - 1) / 64, hP⟩
  have hk : k = (T.length - 1) / 64 := by omega
  rw [refH, refH_eq h0 T (k + 1) hP k (Nat.le_refl _), Nat.min_eq_right (by omega), show decide (k + 1 = k + 1) = true from decide_eq_true rfl, digL, hk]
end Go.Proofs.YteomefhjglnghaaDoor.F
