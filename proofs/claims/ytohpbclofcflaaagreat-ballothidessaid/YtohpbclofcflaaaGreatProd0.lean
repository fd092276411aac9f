/- Products of powers: lists, and what is wrong with them. -/
import Derived.Test.YtohpbclofcflaaaGreatElemV
set_option linter.unusedSimpArgs false
set_option linter.unusedVariables false
namespace Go.Proofs.YtohpbclofcflaaaGreat
open Go.RowKit Go.Deep Go.PlainAid

/-- The i-th text of a list. -/
def tx (l : List ByteArray) (i : Nat) : ByteArray := l.getD i ⟨#[]⟩
/-- Texts in memory. -/
def SAt (w : World) (a : Option Addr) (l : List ByteArray) : Prop := ∀ i, i < l.length → ∃ b o, a = some ⟨b, o, none⟩ ∧ w.cell? ⟨b, o + i, none⟩ = some (.string (tx l i))
theorem SAt.of_below {w w' : World} {a : Option Addr} {l : List ByteArray} (h : SAt w a l) (hb : Below w.heap.size w w') : SAt w' a l := by
  intro i hi
  obtain ⟨b, o, e, c⟩ := h i hi
  exact ⟨b, o, e, by rw [hb.cell (World.block_lt_of_cell? w ⟨b, o + i, none⟩ c)]; exact c⟩
/-- What is wrong with the first of two lists' items that are not right; 0: all are. -/
def code (S M : Nat) : List ByteArray → List ByteArray → Nat
  | a :: xs, n :: ns => if isEl S M a then (if isSc S M n then code S M xs ns else 6) else 7
  | _, _ => 0
theorem tx_drop (l : List ByteArray) (i : Nat) (h : i < l.length) : l.drop i = tx l i :: l.drop (i + 1) := by
  rw [List.drop_eq_getElem_cons h, tx, List.getD_eq_getElem?_getD, List.getElem?_eq_getElem h]
  rfl
theorem code_step {S M : Nat} {xs ns : List ByteArray} {i : Nat} (h1 : i < xs.length) (h2 : i < ns.length) :
    code S M (xs.drop i) (ns.drop i) = if isEl S M (tx xs i) then (if isSc S M (tx ns i) then code S M (xs.drop (i + 1)) (ns.drop (i + 1)) else 6) else 7 := by
  rw [tx_drop xs i h1, tx_drop ns i h2, code]
theorem code_end {S M : Nat} {xs ns : List ByteArray} {i : Nat} (h : xs.length ≤ i) : code S M (xs.drop i) (ns.drop i) = 0 := by
  rw [List.drop_of_length_le h, code]
  simp
/-- The numbers of texts. -/
def nums (l : List ByteArray) : List Nat := l.map numS
theorem nums_getD (l : List ByteArray) (i : Nat) (h : i < l.length) : (nums l).getD i 0 = numS (tx l i) := by
  simp [nums, tx, List.getD_eq_getElem?_getD, List.getElem?_map, List.getElem?_eq_getElem h]
/-- The cells of numbers, one behind the other. -/
def numC : List Nat → List Value
  | [] => []
  | x :: r => us (ws4 x) ++ numC r
theorem us4_length (x : Nat) : (us (ws4 x)).length = 4 := rfl
theorem numC_length (l : List Nat) : (numC l).length = l.length * 4 := by
  induction l with
  | nil => rfl
  | cons x r ih => rw [numC, List.length_append, us4_length, ih, List.length_cons]; omega
theorem numC_snoc (l : List Nat) (x : Nat) : numC (l ++ [x]) = numC l ++ us (ws4 x) := by
  induction l with
  | nil => simp [numC]
  | cons y r ih => rw [List.cons_append, numC, numC, ih, List.append_assoc]
theorem numC_at (l : List Nat) (i j : Nat) (hi : i < l.length) (hj : j < 4) : (numC l)[i * 4 + j]? = some (U (w4 (l.getD i 0) j)) := by
  induction l generalizing i with
  | nil => cases hi
  | cons x r ih =>
    rw [numC]
    cases i with
    | zero =>
      rw [List.getElem?_append_left (by rw [us4_length]; omega), Nat.zero_mul, Nat.zero_add]
      exact us4_at x j hj
    | succ i =>
      rw [List.getElem?_append_right (by rw [us4_length]; omega), us4_length, show (i + 1) * 4 + j - 4 = i * 4 + j by omega, ih i (by simpa using hi)]
      simp
def zeros (n : Nat) : List Value := List.replicate (n * 4) (Value.int .u64 0)
theorem put_at (l : List Nat) (x k : Nat) : ((((numC l ++ zeros (k + 1)).set (l.length * 4) (U (w4 x 0))).set (l.length * 4 + 1) (U (w4 x 1))).set (l.length * 4 + 2) (U (w4 x 2))).set (l.length * 4 + 3) (U (w4 x 3)) = numC (l ++ [x]) ++ zeros k := by
  have e : zeros (k + 1) = .int .u64 0 :: .int .u64 0 :: .int .u64 0 :: .int .u64 0 :: zeros k := by
    unfold zeros
    rw [show (k + 1) * 4 = k * 4 + 1 + 1 + 1 + 1 by omega]
    simp only [List.replicate_succ]
  have hl := numC_length l
  rw [e, numC_snoc]
  rw [List.set_append_right _ _ (by omega), List.set_append_right _ _ (by omega), List.set_append_right _ _ (by omega), List.set_append_right _ _ (by omega)]
  rw [show l.length * 4 - (numC l).length = 0 by omega, show l.length * 4 + 1 - (numC l).length = 1 by omega, show l.length * 4 + 2 - (numC l).length = 2 by omega, show l.length * 4 + 3 - (numC l).length = 3 by omega]
  simp [us, ws4]
theorem zero_cell {W : World} {b : Nat} {l : List Nat} {k j : Nat} (h : IHolds W b 81 (numC l ++ zeros (k + 1))) (hj : j < 4) : W.cell? ⟨b, l.length * 4 + j, none⟩ = some (.int .u64 0) := by
  have hl := numC_length l
  have hlt : l.length * 4 + j < (numC l ++ zeros (k + 1)).length := by rw [List.length_append, hl]; unfold zeros; rw [List.length_replicate]; omega
  rw [h.cell _ hlt, List.getElem_append_right (by omega)]
  unfold zeros
  rw [List.getElem_replicate]
theorem NumsV.of_holds {W : World} {b N : Nat} {l : List Nat} (h : IHolds W b 81 (numC l)) (hN : l.length = N) (h9 : N ≤ 1000) : NumsV W l (.slice (some ⟨b, 0, none⟩) N N) := by
  subst hN
  refine ⟨_, _, rfl, Nat.le_refl _, by omega, ?_⟩
  intro i hi
  refine ⟨b, 0, rfl, ?_⟩
  have hc : ∀ j, j < 4 → W.cell? ⟨b, 0 + i * 4 + j, none⟩ = some (U (w4 (l.getD i 0) j)) := by
    intro j hj
    have hlt : i * 4 + j < (numC l).length := by rw [numC_length]; omega
    have e := numC_at l i j hi hj
    rw [List.getElem?_eq_getElem hlt] at e
    rw [Nat.zero_add, h.cell _ hlt]
    exact e
  exact ⟨hc 0 (by omega), hc 1 (by omega), hc 2 (by omega), hc 3 (by omega)⟩
theorem make105n (n : Nat) (hn : n ≤ 1000) (w : World) : (Instr.makeSlice 104 (.int .i64 (n : Int)) (.int .i64 (n : Int))).run Tryz.prog w = .ok (.slice (some ⟨w.heap.size, 0, none⟩) n n) (w.alloc (.cells (zeros n).toArray 81)) := by
  obtain ⟨i0, hi0, hz0, hz1, hz2⟩ := info_parts Tryz.info66
  have := run_make (P := Tryz.prog) w 104 81 i0 _ Tryz.underlying104 hi0 hz0 .i64 .i64 (n : Int) (n : Int) (by omega) (by omega) (by rw [hz2]; omega) (by omega)
  rw [this, hz1, Int.toNat_natCast]
  have e : madeCells (Value.agg #[.int .u64 0, .int .u64 0, .int .u64 0, .int .u64 0]).cells (n * 4) = (zeros n).toArray := by
    apply Array.toList_inj.1
    unfold zeros
    rw [List.toList_toArray, List.eq_replicate_iff]
    refine ⟨by simp [madeCells], ?_⟩
    intro b hb
    simp only [madeCells, Array.toList_map, List.mem_map] at hb
    obtain ⟨i, _, rfl⟩ := hb
    have h4 : i % 4 = 0 ∨ i % 4 = 1 ∨ i % 4 = 2 ∨ i % 4 = 3 := by omega
    show (#[Value.int .u64 0, .int .u64 0, .int .u64 0, .int .u64 0] : Array Value)[i % 4]! = _
    rcases h4 with h | h | h | h <;> rw [h] <;> rfl
  rw [e]
/-! Signs. -/
theorem neg_mul {p x y : Nat} (h : x ≤ p) (hp : 0 < p) : (p - x) * y % p = (p - x * y % p) % p := by
  have e : (p - x) * y + x * y = p * y := by rw [← Nat.add_mul, Nat.sub_add_cancel h]
  obtain ⟨c, hc⟩ : ∃ c, c = x * y % p := ⟨_, rfl⟩
  have hd := Nat.div_add_mod (x * y) p
  have c9 : c < p := by rw [hc]; exact Nat.mod_lt _ hp
  rw [← hc] at hd ⊢
  obtain ⟨d, hdd⟩ : ∃ d, d = x * y / p := ⟨_, rfl⟩
  rw [← hdd] at hd
  have hy : x * y ≤ p * y := Nat.mul_le_mul_right _ h
  have e2 : (p - x) * y = p * y - x * y := by omega
  by_cases h0 : c = 0
  · rw [h0, Nat.sub_zero, Nat.mod_self, e2, ← hd, h0, Nat.add_zero, ← Nat.mul_sub, Nat.mul_mod_right]
  · have hdy : d < y := by
      refine Nat.lt_of_mul_lt_mul_left (a := p) ?_
      omega
    obtain ⟨t, ht⟩ : ∃ t, y = d + 1 + t := ⟨y - d - 1, by omega⟩
    have e3 : (p - x) * y = (p - c) + p * t := by
      rw [e2, ← hd, ht, Nat.mul_add, Nat.mul_add, Nat.mul_one]
      omega
    rw [e3, Nat.add_mul_mod_self_left]
theorem sgn_neg0 {M M2 c : Nat} (e : M2 = 2 * M + 1) (h : c < M2) : sgn M M2 ((M2 - c) % M2) = sgn M M2 c := by
  by_cases h0 : c = 0
  · rw [h0, Nat.sub_zero, Nat.mod_self]
  · rw [Nat.mod_eq_of_lt (by omega), sgn_neg e (by omega) h]
theorem sgn_mul_left {M M2 x y : Nat} (e : M2 = 2 * M + 1) (hx : x < M2) : sgn M M2 (sgn M M2 x * y % M2) = sgn M M2 (x * y % M2) := by
  by_cases h : M < x
  · have e1 : sgn M M2 x = M2 - x := by unfold sgn; rw [if_pos h]
    rw [e1, neg_mul (by omega) (by omega), sgn_neg0 e (Nat.mod_lt _ (by omega))]
  · have e1 : sgn M M2 x = x := by unfold sgn; rw [if_neg h]
    rw [e1]
theorem sgn_mul {M M2 x y : Nat} (e : M2 = 2 * M + 1) (hx : x < M2) (hy : y < M2) : sgn M M2 (sgn M M2 x * sgn M M2 y % M2) = sgn M M2 (x * y % M2) := by
  rw [sgn_mul_left e hx, Nat.mul_comm, sgn_mul_left e hy, Nat.mul_comm]
theorem sgn_prod {M M2 : Nat} (e : M2 = 2 * M + 1) (hM : 1 ≤ M) (al nl : List Nat) (i : Nat) : sgn M M2 (sgn M M2 (powP al nl i % M2) * sgn M M2 (al.getD i 0 ^ nl.getD i 0 % M2) % M2) = sgn M M2 (powP al nl (i + 1) % M2) := by
  rw [sgn_mul e (Nat.mod_lt _ (by omega)) (Nat.mod_lt _ (by omega)), ← Nat.mul_mod, powP]
theorem sgn_one {M M2 : Nat} (e : M2 = 2 * M + 1) (hM : 1 ≤ M) (al nl : List Nat) : sgn M M2 (powP al nl 0 % M2) = 1 := by
  rw [powP, Nat.mod_eq_of_lt (by omega)]
  unfold sgn
  rw [if_neg (by omega)]
end Go.Proofs.YtohpbclofcflaaaGreat
