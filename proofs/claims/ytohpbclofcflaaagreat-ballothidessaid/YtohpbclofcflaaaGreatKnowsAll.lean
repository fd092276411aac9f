/- What the faces Scalar, Member, Number, Reduce answer, and the reference. -/
import Derived.Test.YtohpbclofcflaaaGreatClos
import Derived.Test.YtohpbclofcflaaaGreatKnows
set_option linter.unusedSimpArgs false
set_option linter.unusedVariables false
namespace Go.Proofs.YtohpbclofcflaaaGreat
open Go.RowKit Go.Deep Go.PlainAid

theorem A4_zero : Value.agg #[.int .u64 0, .int .u64 0, .int .u64 0, .int .u64 0] = A4 0 := A4_small (k := 0) BB_pos
theorem pow32 {n : Nat} (h : n ≤ 32) : 256 ^ n ≤ BB ^ 4 := by
  rw [BB_256, ← Nat.pow_mul]
  exact Nat.pow_le_pow_right (by omega) (by omega)
theorem numS_small {s : ByteArray} (h : s.size ≤ 32) : numS s < BB ^ 4 := Nat.lt_of_lt_of_le (numS_lt s) (pow32 h)
theorem w4_all_zero {n : Nat} (h : n < BB ^ 4) : (w4 n 0 = 0 ∧ w4 n 1 = 0 ∧ w4 n 2 = 0 ∧ w4 n 3 = 0) ↔ n = 0 := by
  constructor
  · rintro ⟨h0, h1, h2, h3⟩
    have := vl_w4 h
    rw [h0, h1, h2, h3] at this
    simpa [vl] using this.symm
  · rintro rfl
    simp [w4]
theorem lessT (w : World) {n m : Nat} (hn : n < BB ^ 4) (hm : m < BB ^ 4) (h : n < m) : Calls Tryz.prog 75 #[A4 n, A4 m] w fun e w' => e = .returned (.bool true) ∧ Below w.heap.size w w' := by
  have := lessA w hn hm
  rw [decide_eq_true h] at this
  exact this
theorem lessF (w : World) {n m : Nat} (hn : n < BB ^ 4) (hm : m < BB ^ 4) (h : ¬ n < m) : Calls Tryz.prog 75 #[A4 n, A4 m] w fun e w' => e = .returned (.bool false) ∧ Below w.heap.size w w' := by
  have := lessA w hn hm
  rw [decide_eq_false h] at this
  exact this
/-- Is it a scalar, is it an element? -/
def isSc (S M : Nat) (s : ByteArray) : Bool := decide (s.size = S ∧ numS s < M)
def isEl (S M : Nat) (s : ByteArray) : Bool := decide (s.size = S ∧ numS s ≠ 0 ∧ numS s ≤ M)
theorem size_ne {s : ByteArray} {S : Nat} (h : ¬ s.size = S) : ((s.size : Int) == (S : Int)) = false := by
  rw [beq_eq_false_iff_ne]; omega
theorem scalarA {w : World} {g S Wd M low one sq Wd2 M2 low2 one2 sq2 : Nat} (F : Hid (GH w g S Wd M low one sq Wd2 M2 low2 one2 sq2)) (s : ByteArray) (hS : S ≤ 32) (hM : M < BB ^ 4) :
    Calls Tryz.prog 57 #[.pointer (some ⟨g, 0, none⟩), .string s] w fun e w' => e = .returned (.tuple #[A4 (if isSc S M s then numS s else 0), .int .i64 (if isSc S M s then 0 else 6)]) ∧ Below w.heap.size w w' := by
  by_cases h : s.size = S
  · have hn := numS_small (s := s) (by omega)
    by_cases h2 : numS s < M
    · have e : isSc S M s = true := by unfold isSc; exact decide_eq_true ⟨h, h2⟩
      rw [e, if_pos rfl, if_pos rfl]
      exact scalar_is F h.symm (fun W => numberOf_any W s (by omega)) (fun W => lessT W hn hM h2)
    · have e : isSc S M s = false := by unfold isSc; exact decide_eq_false (fun q => h2 q.2)
      rw [e, if_neg (by simp), if_neg (by simp), ← A4_zero]
      exact scalar_not F h.symm (fun W => numberOf_any W s (by omega)) (fun W => lessF W hn hM h2)
  · have e : isSc S M s = false := by unfold isSc; exact decide_eq_false (fun q => h q.1)
    rw [e, if_neg (by simp), if_neg (by simp), ← A4_zero]
    exact scalar_no F (size_ne h)
theorem elemA {w : World} {g S Wd M low one sq Wd2 M2 low2 one2 sq2 : Nat} (F : Hid (GH w g S Wd M low one sq Wd2 M2 low2 one2 sq2)) (s : ByteArray) (hS : S ≤ 32) (hM : M < BB ^ 4) :
    Calls Tryz.prog 55 #[.pointer (some ⟨g, 0, none⟩), .string s] w fun e w' => e = .returned (.tuple #[A4 (if isEl S M s then numS s else 0), .int .i64 (if isEl S M s then 0 else 7)]) ∧ Below w.heap.size w w' := by
  by_cases h : s.size = S
  · have hn := numS_small (s := s) (by omega)
    by_cases h0 : numS s = 0
    · have e : isEl S M s = false := by unfold isEl; exact decide_eq_false (fun q => q.2.1 h0)
      rw [e, if_neg (by simp), if_neg (by simp), ← A4_zero]
      exact elem_zero F h.symm (fun W => numberOf_any W s (by omega)) (decide_eq_true ((w4_all_zero hn).2 h0))
    · have hz := decide_eq_false (p := _ ∧ _) (fun q => h0 ((w4_all_zero hn).1 q))
      by_cases h2 : M < numS s
      · have e : isEl S M s = false := by unfold isEl; exact decide_eq_false (fun q => by have := q.2.2; omega)
        rw [e, if_neg (by simp), if_neg (by simp), ← A4_zero]
        exact elem_not F h.symm (fun W => numberOf_any W s (by omega)) (fun W => lessT W hM hn h2) hz
      · have e : isEl S M s = true := by unfold isEl; exact decide_eq_true ⟨h, h0, by omega⟩
        rw [e, if_pos rfl, if_pos rfl]
        exact elem_is F h.symm (fun W => numberOf_any W s (by omega)) (fun W => lessF W hM hn h2) hz
  · have e : isEl S M s = false := by unfold isEl; exact decide_eq_false (fun q => h q.1)
    rw [e, if_neg (by simp), if_neg (by simp), ← A4_zero]
    exact elem_no F (size_ne h)
theorem toldA {w : World} {g S n : Nat} (hg : w.cell? ⟨g, 0, none⟩ = some (.int .i64 (S : Int))) (hS : S ≤ 32) (hn : n < BB ^ 4) :
    Calls Tryz.prog 69 #[.pointer (some ⟨g, 0, none⟩), A4 n] w fun e w' => e = .returned (.tuple #[.string ⟨(beB S n).toArray⟩, .int .i64 0]) ∧ Below w.heap.size w w' := by
  have := told_any hg (x0 := w4 n 0) (x1 := w4 n 1) (x2 := w4 n 2) (x3 := w4 n 3) (w4_lt n 0) (w4_lt n 1) (w4_lt n 2) (w4_lt n 3) hS
  rw [show NB (w4 n 0) (w4 n 1) (w4 n 2) (w4 n 3) = n from vl_w4 hn] at this
  exact this
/-! The reference's. -/
theorem isScalarV {w : World} {q p S : Nat} {u1 u2 : Value} (h1 : NumV w 65536 q u1) (h2 : NumV w 65536 p u2) (s : ByteArray) (hS : S ≤ 32) (lq : (dg 65536 q).length ≤ 1000000) :
    Calls Tryz.prog 18 #[.agg #[.int .i64 (S : Int), u1, u2], .string s] w fun e w' => e = .returned (.bool (isSc S q s)) ∧ Below w.heap.size w w' := by
  have N1 : Hid (NumV w 65536 q u1) := h1
  have N2 : Hid (NumV w 65536 p u2) := h2
  obtain ⟨qa, ql, qc, rfl⟩ := sN N1
  obtain ⟨pa, pl, pc, rfl⟩ := sN N2
  by_cases h : s.size = S
  · have l9 : (dg 65536 (numS s)).length ≤ 1000000 := Nat.le_trans (dg_len_le b16 s.size _ (Nat.lt_of_lt_of_le (numS_lt s) (Nat.pow_le_pow_left (by omega) _))) (by omega)
    subst h
    refine isScalar_is N1 (fun W => read_any W s (by omega)) (fun W v v' g1 g2 => compareV g1 g2 l9 lq) ?_
    unfold isSc
    by_cases h2 : numS s < q
    · rw [cmp3_lt (by omega)]; simp [h2]
    · rcases Nat.lt_or_eq_of_le (Nat.le_of_not_lt h2) with h3 | h3
      · rw [cmp3_gt (by omega)]; simp [h2]
      · rw [cmp3_eq (by omega)]; simp [h2]
  · have e : isSc S q s = false := by unfold isSc; exact decide_eq_false (fun q => h q.1)
    rw [e]
    exact isScalar_no N1 (size_ne h)
theorem isElemV {w : World} {q p S : Nat} {u1 u2 : Value} (h1 : NumV w 65536 q u1) (h2 : NumV w 65536 p u2) (s : ByteArray) (hS : S ≤ 32) (lq : (dg 65536 q).length ≤ 1000000) :
    Calls Tryz.prog 17 #[.agg #[.int .i64 (S : Int), u1, u2], .string s] w fun e w' => e = .returned (.bool (isEl S q s)) ∧ Below w.heap.size w w' := by
  have N1 : Hid (NumV w 65536 q u1) := h1
  have N2 : Hid (NumV w 65536 p u2) := h2
  obtain ⟨qa, ql, qc, rfl⟩ := sN N1
  obtain ⟨pa, pl, pc, rfl⟩ := sN N2
  by_cases h : s.size = S
  · have l9 : (dg 65536 (numS s)).length ≤ 1000000 := Nat.le_trans (dg_len_le b16 s.size _ (Nat.lt_of_lt_of_le (numS_lt s) (Nat.pow_le_pow_left (by omega) _))) (by omega)
    by_cases h0 : numS s = 0
    · have e : isEl S q s = false := by unfold isEl; exact decide_eq_false (fun q => q.2.1 h0)
      rw [e]
      subst h
      exact isElem_zero N1 (fun W => read_any W s (by omega)) (by rw [h0, dg_zero]; rfl)
    · subst h
      refine isElem_is N1 (fun W => read_any W s (by omega)) (fun W v v' g1 g2 => compareV g1 g2 l9 lq) (by have : (dg 65536 (numS s)).length ≠ 0 := (by rw [Ne, dg_length_zero b16]; exact h0); omega) ?_
      unfold isEl
      by_cases h2 : q < numS s
      · rw [cmp3_gt (by omega)]; simp; omega
      · rcases Nat.lt_or_eq_of_le (Nat.le_of_not_lt h2) with h3 | h3
        · rw [cmp3_lt (by omega)]; simp [h0]; omega
        · rw [cmp3_eq (by omega)]; simp [h0]; omega
  · have e : isEl S q s = false := by unfold isEl; exact decide_eq_false (fun q => h q.1)
    rw [e]
    exact isElem_no N1 (size_ne h)
theorem lenD {n k : Nat} (h : n ≤ k) (l : (dg 65536 k).length ≤ 100000) : (dg 65536 n).length ≤ 1000000 := Nat.le_trans (dg_len_mono b16 h) (by omega)
theorem len2 {n k : Nat} (h : n < 2 * k) (l : (dg 65536 k).length ≤ 100000) : (dg 65536 n).length ≤ 1000000 := by
  refine Nat.le_trans (dg_len_le b16 ((dg 65536 k).length + 1) n ?_) (by omega)
  have := lt_pow_dg b16 k
  rw [Nat.pow_succ]
  omega
theorem num_neg {q k : Nat} (hq : 2 ≤ q) : (((0 + q - k % q) % q + q - 1) % q) = subF q 0 ((k + 1) % q) := by
  have h1 : (k + 1) % q = (k % q + 1) % q := by rw [Nat.add_mod, Nat.mod_eq_of_lt (show 1 < q by omega)]
  have hr : k % q < q := Nat.mod_lt _ (by omega)
  rw [h1]
  generalize k % q = r at *
  unfold subF
  by_cases h : r = 0
  · subst h
    rw [Nat.zero_add, Nat.sub_zero, Nat.mod_self, Nat.zero_add, Nat.mod_eq_of_lt (show q - 1 < q by omega), Nat.zero_add, Nat.mod_eq_of_lt (show 1 < q by omega), if_pos (by omega)]
    try omega
  · rw [Nat.zero_add, Nat.mod_eq_of_lt (show q - r < q by omega)]
    by_cases h2 : r = q - 1
    · subst h2
      rw [show q - (q - 1) + q - 1 = q by omega, Nat.mod_self, show q - 1 + 1 = q by omega, Nat.mod_self, if_neg (by omega)]
    · rw [show q - r + q - 1 = (q - r - 1) + q by omega, Nat.add_mod_right, Nat.mod_eq_of_lt (show q - r - 1 < q by omega), Nat.mod_eq_of_lt (show r + 1 < q by omega), if_pos (by omega)]
      omega
theorem subF_lt {M a b : Nat} (ha : a < M) (hb : b < M) : subF M a b < M := by unfold subF; split <;> omega
theorem numF_lt {M : Nat} {z : Int} (hM : 2 ≤ M) : numF M z < M := by
  unfold numF
  split
  · exact subF_lt (by omega) (Nat.mod_lt _ (by omega))
  · exact Nat.mod_lt _ (by omega)
set_option maxRecDepth 100000 in
theorem gh1 (W : World) (g : Nat) (h : IHolds W g 97 gr1.toList) : GH W g 2 1 641 28778071877862015 1 1 1 1283 690135397925220949 989 475 := by
  refine ⟨by have := h.cell 0 (by decide); exact this, ?_, ?_⟩
  · exact ⟨by have := h.cell 1 (by decide); exact this, (by have := h.cell 2 (by decide); rw [show w4 641 0 = 641 from by decide +kernel]; exact this), (by have := h.cell 3 (by decide); rw [show w4 641 1 = 0 from by decide +kernel]; exact this), (by have := h.cell 4 (by decide); rw [show w4 641 2 = 0 from by decide +kernel]; exact this), (by have := h.cell 5 (by decide); rw [show w4 641 3 = 0 from by decide +kernel]; exact this), by have := h.cell 6 (by decide); exact this, (by have := h.cell 7 (by decide); rw [show w4 1 0 = 1 from by decide +kernel]; exact this), (by have := h.cell 8 (by decide); rw [show w4 1 1 = 0 from by decide +kernel]; exact this), (by have := h.cell 9 (by decide); rw [show w4 1 2 = 0 from by decide +kernel]; exact this), (by have := h.cell 10 (by decide); rw [show w4 1 3 = 0 from by decide +kernel]; exact this), (by have := h.cell 11 (by decide); rw [show w4 1 0 = 1 from by decide +kernel]; exact this), (by have := h.cell 12 (by decide); rw [show w4 1 1 = 0 from by decide +kernel]; exact this), (by have := h.cell 13 (by decide); rw [show w4 1 2 = 0 from by decide +kernel]; exact this), (by have := h.cell 14 (by decide); rw [show w4 1 3 = 0 from by decide +kernel]; exact this)⟩
  · exact ⟨by have := h.cell 15 (by decide); exact this, (by have := h.cell 16 (by decide); rw [show w4 1283 0 = 1283 from by decide +kernel]; exact this), (by have := h.cell 17 (by decide); rw [show w4 1283 1 = 0 from by decide +kernel]; exact this), (by have := h.cell 18 (by decide); rw [show w4 1283 2 = 0 from by decide +kernel]; exact this), (by have := h.cell 19 (by decide); rw [show w4 1283 3 = 0 from by decide +kernel]; exact this), by have := h.cell 20 (by decide); exact this, (by have := h.cell 21 (by decide); rw [show w4 989 0 = 989 from by decide +kernel]; exact this), (by have := h.cell 22 (by decide); rw [show w4 989 1 = 0 from by decide +kernel]; exact this), (by have := h.cell 23 (by decide); rw [show w4 989 2 = 0 from by decide +kernel]; exact this), (by have := h.cell 24 (by decide); rw [show w4 989 3 = 0 from by decide +kernel]; exact this), (by have := h.cell 25 (by decide); rw [show w4 475 0 = 475 from by decide +kernel]; exact this), (by have := h.cell 26 (by decide); rw [show w4 475 1 = 0 from by decide +kernel]; exact this), (by have := h.cell 27 (by decide); rw [show w4 475 2 = 0 from by decide +kernel]; exact this), (by have := h.cell 28 (by decide); rw [show w4 475 3 = 0 from by decide +kernel]; exact this)⟩
set_option maxRecDepth 100000 in
theorem gh2 (W : World) (g : Nat) (h : IHolds W g 97 gr2.toList) : GH W g 8 1 576465431670292481 14411523486952456191 576315691930484705 164727685076202836 1 1152930863340584963 2177741659672237397 1152781123600777171 169519337302233854 := by
  refine ⟨by have := h.cell 0 (by decide); exact this, ?_, ?_⟩
  · exact ⟨by have := h.cell 1 (by decide); exact this, (by have := h.cell 2 (by decide); rw [show w4 576465431670292481 0 = 576465431670292481 from by decide +kernel]; exact this), (by have := h.cell 3 (by decide); rw [show w4 576465431670292481 1 = 0 from by decide +kernel]; exact this), (by have := h.cell 4 (by decide); rw [show w4 576465431670292481 2 = 0 from by decide +kernel]; exact this), (by have := h.cell 5 (by decide); rw [show w4 576465431670292481 3 = 0 from by decide +kernel]; exact this), by have := h.cell 6 (by decide); exact this, (by have := h.cell 7 (by decide); rw [show w4 576315691930484705 0 = 576315691930484705 from by decide +kernel]; exact this), (by have := h.cell 8 (by decide); rw [show w4 576315691930484705 1 = 0 from by decide +kernel]; exact this), (by have := h.cell 9 (by decide); rw [show w4 576315691930484705 2 = 0 from by decide +kernel]; exact this), (by have := h.cell 10 (by decide); rw [show w4 576315691930484705 3 = 0 from by decide +kernel]; exact this), (by have := h.cell 11 (by decide); rw [show w4 164727685076202836 0 = 164727685076202836 from by decide +kernel]; exact this), (by have := h.cell 12 (by decide); rw [show w4 164727685076202836 1 = 0 from by decide +kernel]; exact this), (by have := h.cell 13 (by decide); rw [show w4 164727685076202836 2 = 0 from by decide +kernel]; exact this), (by have := h.cell 14 (by decide); rw [show w4 164727685076202836 3 = 0 from by decide +kernel]; exact this)⟩
  · exact ⟨by have := h.cell 15 (by decide); exact this, (by have := h.cell 16 (by decide); rw [show w4 1152930863340584963 0 = 1152930863340584963 from by decide +kernel]; exact this), (by have := h.cell 17 (by decide); rw [show w4 1152930863340584963 1 = 0 from by decide +kernel]; exact this), (by have := h.cell 18 (by decide); rw [show w4 1152930863340584963 2 = 0 from by decide +kernel]; exact this), (by have := h.cell 19 (by decide); rw [show w4 1152930863340584963 3 = 0 from by decide +kernel]; exact this), by have := h.cell 20 (by decide); exact this, (by have := h.cell 21 (by decide); rw [show w4 1152781123600777171 0 = 1152781123600777171 from by decide +kernel]; exact this), (by have := h.cell 22 (by decide); rw [show w4 1152781123600777171 1 = 0 from by decide +kernel]; exact this), (by have := h.cell 23 (by decide); rw [show w4 1152781123600777171 2 = 0 from by decide +kernel]; exact this), (by have := h.cell 24 (by decide); rw [show w4 1152781123600777171 3 = 0 from by decide +kernel]; exact this), (by have := h.cell 25 (by decide); rw [show w4 169519337302233854 0 = 169519337302233854 from by decide +kernel]; exact this), (by have := h.cell 26 (by decide); rw [show w4 169519337302233854 1 = 0 from by decide +kernel]; exact this), (by have := h.cell 27 (by decide); rw [show w4 169519337302233854 2 = 0 from by decide +kernel]; exact this), (by have := h.cell 28 (by decide); rw [show w4 169519337302233854 3 = 0 from by decide +kernel]; exact this)⟩
set_option maxRecDepth 100000 in
theorem gh3 (W : World) (g : Nat) (h : IHolds W g 97 gr3.toList) : GH W g 32 4 7237005577332262213973186563042995786902308146886443998308627866733439352833 18446744073709551615 7237005577332262213973186563042971049735362462343904064828166006911539347441 7237005577332262213973055834329441520127728155767444907515600161428691746049 4 14474011154664524427946373126085991573804616293772887996617255733466878705667 6148914691236517205 14474011154664524427946373126085966836637670609230348063136793873644978700267 14474011154664524427946242397372833101701167255334527841511617785270253517891 := by
  refine ⟨by have := h.cell 0 (by decide); exact this, ?_, ?_⟩
  · exact ⟨by have := h.cell 1 (by decide); exact this, (by have := h.cell 2 (by decide); rw [show w4 7237005577332262213973186563042995786902308146886443998308627866733439352833 0 = 1 from by decide +kernel]; exact this), (by have := h.cell 3 (by decide); rw [show w4 7237005577332262213973186563042995786902308146886443998308627866733439352833 1 = 9223372036854775808 from by decide +kernel]; exact this), (by have := h.cell 4 (by decide); rw [show w4 7237005577332262213973186563042995786902308146886443998308627866733439352833 2 = 4543 from by decide +kernel]; exact this), (by have := h.cell 5 (by decide); rw [show w4 7237005577332262213973186563042995786902308146886443998308627866733439352833 3 = 1152921504606846976 from by decide +kernel]; exact this), by have := h.cell 6 (by decide); exact this, (by have := h.cell 7 (by decide); rw [show w4 7237005577332262213973186563042971049735362462343904064828166006911539347441 0 = 18446744073709551601 from by decide +kernel]; exact this), (by have := h.cell 8 (by decide); rw [show w4 7237005577332262213973186563042971049735362462343904064828166006911539347441 1 = 9223372036854775807 from by decide +kernel]; exact this), (by have := h.cell 9 (by decide); rw [show w4 7237005577332262213973186563042971049735362462343904064828166006911539347441 2 = 18446744073709483463 from by decide +kernel]; exact this), (by have := h.cell 10 (by decide); rw [show w4 7237005577332262213973186563042971049735362462343904064828166006911539347441 3 = 1152921504606846975 from by decide +kernel]; exact this), (by have := h.cell 11 (by decide); rw [show w4 7237005577332262213973055834329441520127728155767444907515600161428691746049 0 = 18446743989154217217 from by decide +kernel]; exact this), (by have := h.cell 12 (by decide); rw [show w4 7237005577332262213973055834329441520127728155767444907515600161428691746049 1 = 9223372036854775807 from by decide +kernel]; exact this), (by have := h.cell 13 (by decide); rw [show w4 7237005577332262213973055834329441520127728155767444907515600161428691746049 2 = 18446359896548872895 from by decide +kernel]; exact this), (by have := h.cell 14 (by decide); rw [show w4 7237005577332262213973055834329441520127728155767444907515600161428691746049 3 = 1152921504606846975 from by decide +kernel]; exact this)⟩
  · exact ⟨by have := h.cell 15 (by decide); exact this, (by have := h.cell 16 (by decide); rw [show w4 14474011154664524427946373126085991573804616293772887996617255733466878705667 0 = 3 from by decide +kernel]; exact this), (by have := h.cell 17 (by decide); rw [show w4 14474011154664524427946373126085991573804616293772887996617255733466878705667 1 = 0 from by decide +kernel]; exact this), (by have := h.cell 18 (by decide); rw [show w4 14474011154664524427946373126085991573804616293772887996617255733466878705667 2 = 9087 from by decide +kernel]; exact this), (by have := h.cell 19 (by decide); rw [show w4 14474011154664524427946373126085991573804616293772887996617255733466878705667 3 = 2305843009213693952 from by decide +kernel]; exact this), by have := h.cell 20 (by decide); exact this, (by have := h.cell 21 (by decide); rw [show w4 14474011154664524427946373126085966836637670609230348063136793873644978700267 0 = 18446744073709551595 from by decide +kernel]; exact this), (by have := h.cell 22 (by decide); rw [show w4 14474011154664524427946373126085966836637670609230348063136793873644978700267 1 = 18446744073709551615 from by decide +kernel]; exact this), (by have := h.cell 23 (by decide); rw [show w4 14474011154664524427946373126085966836637670609230348063136793873644978700267 2 = 18446744073709488006 from by decide +kernel]; exact this), (by have := h.cell 24 (by decide); rw [show w4 14474011154664524427946373126085966836637670609230348063136793873644978700267 3 = 2305843009213693951 from by decide +kernel]; exact this), (by have := h.cell 25 (by decide); rw [show w4 14474011154664524427946242397372833101701167255334527841511617785270253517891 0 = 18446743946876550211 from by decide +kernel]; exact this), (by have := h.cell 26 (by decide); rw [show w4 14474011154664524427946242397372833101701167255334527841511617785270253517891 1 = 18446744073709551615 from by decide +kernel]; exact this), (by have := h.cell 27 (by decide); rw [show w4 14474011154664524427946242397372833101701167255334527841511617785270253517891 2 = 18446359896550040574 from by decide +kernel]; exact this), (by have := h.cell 28 (by decide); rw [show w4 14474011154664524427946242397372833101701167255334527841511617785270253517891 3 = 2305843009213693951 from by decide +kernel]; exact this)⟩
end Go.Proofs.YtohpbclofcflaaaGreat
