/- Plain: ten rounds of eight stirs on sixteen words, and the way back. No Go text is named here. -/
import Derived.Test.YteomefhjglnghaaDoorFMem
set_option linter.unusedSimpArgs false
set_option linter.unusedVariables false
set_option maxRecDepth 100000
namespace Go.Proofs.YteomefhjglnghaaDoor.F
open Go.RowKit

/-- The orders, row behind row; the places, four behind four. -/
def ordL : List Nat := [0, 1, 2, 3, 4, 5, 6, 7, 8, 9, 10, 11, 12, 13, 14, 15, 14, 10, 4, 8, 9, 15, 13, 6, 1, 12, 0, 2, 11, 7, 5, 3, 11, 8, 12, 0, 5, 2, 15, 13, 10, 14, 3, 6, 7, 1, 9, 4, 7, 9, 3, 1, 13, 12, 11, 14, 2, 6, 5, 10, 4, 0, 15, 8, 9, 0, 5, 7, 2, 4, 10, 15, 14, 1, 11, 12, 6, 8, 3, 13, 2, 12, 6, 10, 0, 11, 8, 3, 4, 13, 7, 5, 15, 14, 1, 9, 12, 5, 1, 15, 14, 13, 4, 10, 0, 7, 6, 3, 9, 2, 8, 11, 13, 11, 7, 14, 12, 1, 3, 9, 5, 0, 15, 4, 8, 6, 2, 10, 6, 15, 14, 9, 11, 3, 0, 8, 12, 2, 13, 7, 1, 4, 10, 5, 10, 2, 8, 4, 7, 6, 1, 5, 15, 11, 9, 14, 3, 12, 13, 0]
def plcL : List Nat := [0, 4, 8, 12, 1, 5, 9, 13, 2, 6, 10, 14, 3, 7, 11, 15, 0, 5, 10, 15, 1, 6, 11, 12, 2, 7, 8, 13, 3, 4, 9, 14]
def ordN (r j : Nat) : Nat := ordL.getD (r * 16 + j) 0
def plcN (i j : Nat) : Nat := plcL.getD (i * 4 + j) 0

/-- One stir of four words, and the way back. -/
def st4 (p : Four) (x y : UInt32) : Four := hf 8 7 (hf 16 12 p x) y
def unst4 (p : Four) (x y : UInt32) : Four := unhf 16 12 (unhf 8 7 p y) x
theorem unst4_st4 (p : Four) (x y : UInt32) : unst4 (st4 p x y) x y = p := by
  unfold unst4 st4; rw [unhf_hf 8 7 (by decide) (by decide), unhf_hf 16 12 (by decide) (by decide)]
theorem st4_unst4 (p : Four) (x y : UInt32) : st4 (unst4 p x y) x y = p := by
  unfold unst4 st4; rw [hf_unhf 16 12 (by decide) (by decide), hf_unhf 8 7 (by decide) (by decide)]

def at4 (l : List UInt32) (p0 p1 p2 p3 : Nat) : Four := ⟨l.getD p0 0, l.getD p1 0, l.getD p2 0, l.getD p3 0⟩
theorem set4_length (l : List UInt32) (p0 p1 p2 p3 : Nat) (q : Four) : (set4 l p0 p1 p2 p3 q).length = l.length := by simp [set4]
theorem at4_set4 (l : List UInt32) (hl : l.length = 16) (p0 p1 p2 p3 : Nat) (q : Four) (l0 : p0 < 16) (l1 : p1 < 16) (l2 : p2 < 16) (l3 : p3 < 16)
    (n01 : p0 ≠ p1) (n02 : p0 ≠ p2) (n03 : p0 ≠ p3) (n12 : p1 ≠ p2) (n13 : p1 ≠ p3) (n23 : p2 ≠ p3) : at4 (set4 l p0 p1 p2 p3 q) p0 p1 p2 p3 = q := by
  obtain ⟨a, b, c, d⟩ := q
  simp [at4, set4, List.getD_eq_getElem?_getD, List.getElem?_set, hl, l0, l1, l2, l3, n01, n02, n03, n12, n13, n23, n01.symm, n02.symm, n03.symm, n12.symm, n13.symm, n23.symm]
theorem set4_set4_at4 (l : List UInt32) (p0 p1 p2 p3 : Nat) (q : Four)
    (n01 : p0 ≠ p1) (n02 : p0 ≠ p2) (n03 : p0 ≠ p3) (n12 : p1 ≠ p2) (n13 : p1 ≠ p3) (n23 : p2 ≠ p3) : set4 (set4 l p0 p1 p2 p3 q) p0 p1 p2 p3 (at4 l p0 p1 p2 p3) = l := by
  apply List.ext_getElem?
  intro i
  simp only [at4, set4, List.getElem?_set, List.length_set, List.getD_eq_getElem?_getD]
  by_cases h3 : p3 = i
  · subst h3
    by_cases h : p3 < l.length <;> simp [h]
  by_cases h2 : p2 = i
  · subst h2
    by_cases h : p2 < l.length <;> simp [h, h3]
  by_cases h1 : p1 = i
  · subst h1
    by_cases h : p1 < l.length <;> simp [h, h2, h3]
  by_cases h0 : p0 = i
  · subst h0
    by_cases h : p0 < l.length <;> simp [h, h1, h2, h3]
  simp [h0, h1, h2, h3]

/-- The places are places, four at a time all different. -/
theorem plc_ok : ∀ i, i < 8 → plcN i 0 < 16 ∧ plcN i 1 < 16 ∧ plcN i 2 < 16 ∧ plcN i 3 < 16 ∧ plcN i 0 ≠ plcN i 1 ∧ plcN i 0 ≠ plcN i 2 ∧ plcN i 0 ≠ plcN i 3 ∧ plcN i 1 ≠ plcN i 2 ∧ plcN i 1 ≠ plcN i 3 ∧ plcN i 2 ≠ plcN i 3 := by decide
theorem ord_ok : ∀ r, r < 10 → ∀ j, j < 16 → ordN r j < 16 := by decide

/-- Stir number i of round r. -/
def stirAt (m : List UInt32) (r i : Nat) (l : List UInt32) : List UInt32 :=
  set4 l (plcN i 0) (plcN i 1) (plcN i 2) (plcN i 3) (st4 (at4 l (plcN i 0) (plcN i 1) (plcN i 2) (plcN i 3)) (m.getD (ordN r (2 * i)) 0) (m.getD (ordN r (2 * i + 1)) 0))
def unAt (m : List UInt32) (r i : Nat) (l : List UInt32) : List UInt32 :=
  set4 l (plcN i 0) (plcN i 1) (plcN i 2) (plcN i 3) (unst4 (at4 l (plcN i 0) (plcN i 1) (plcN i 2) (plcN i 3)) (m.getD (ordN r (2 * i)) 0) (m.getD (ordN r (2 * i + 1)) 0))
theorem stirAt_length (m : List UInt32) (r i : Nat) (l : List UInt32) : (stirAt m r i l).length = l.length := set4_length ..
theorem unAt_length (m : List UInt32) (r i : Nat) (l : List UInt32) : (unAt m r i l).length = l.length := set4_length ..
theorem unAt_stirAt (m : List UInt32) (r i : Nat) (l : List UInt32) (hl : l.length = 16) (hi : i < 8) : unAt m r i (stirAt m r i l) = l := by
  obtain ⟨l0, l1, l2, l3, n01, n02, n03, n12, n13, n23⟩ := plc_ok i hi
  unfold unAt stirAt
  rw [at4_set4 l hl _ _ _ _ _ l0 l1 l2 l3 n01 n02 n03 n12 n13 n23, unst4_st4, set4_set4_at4 l _ _ _ _ _ n01 n02 n03 n12 n13 n23]
theorem stirAt_unAt (m : List UInt32) (r i : Nat) (l : List UInt32) (hl : l.length = 16) (hi : i < 8) : stirAt m r i (unAt m r i l) = l := by
  obtain ⟨l0, l1, l2, l3, n01, n02, n03, n12, n13, n23⟩ := plc_ok i hi
  unfold unAt stirAt
  rw [at4_set4 l hl _ _ _ _ _ l0 l1 l2 l3 n01 n02 n03 n12 n13 n23, st4_unst4, set4_set4_at4 l _ _ _ _ _ n01 n02 n03 n12 n13 n23]

/-- So many stirs of round r; so many rounds. -/
def stirRow (m : List UInt32) (r : Nat) : Nat → List UInt32 → List UInt32
  | 0, l => l
  | i + 1, l => stirAt m r i (stirRow m r i l)
def stirs (m : List UInt32) : Nat → List UInt32 → List UInt32
  | 0, l => l
  | r + 1, l => stirRow m r 8 (stirs m r l)
/-- The way back: the last first. -/
def unRow (m : List UInt32) (r : Nat) : Nat → List UInt32 → List UInt32
  | 0, l => l
  | k + 1, l => unAt m r (7 - k) (unRow m r k l)
def uns (m : List UInt32) : Nat → List UInt32 → List UInt32
  | 0, l => l
  | k + 1, l => unRow m (9 - k) 8 (uns m k l)
theorem stirRow_length (m : List UInt32) (r i : Nat) (l : List UInt32) : (stirRow m r i l).length = l.length := by
  induction i with
  | zero => rfl
  | succ i ih => rw [stirRow, stirAt_length, ih]
theorem unRow_length (m : List UInt32) (r i : Nat) (l : List UInt32) : (unRow m r i l).length = l.length := by
  induction i with
  | zero => rfl
  | succ i ih => rw [unRow, unAt_length, ih]
theorem stirs_length (m : List UInt32) (r : Nat) (l : List UInt32) : (stirs m r l).length = l.length := by
  induction r with
  | zero => rfl
  | succ i ih => rw [stirs, stirRow_length, ih]
theorem uns_length (m : List UInt32) (r : Nat) (l : List UInt32) : (uns m r l).length = l.length := by
  induction r with
  | zero => rfl
  | succ i ih => rw [uns, unRow_length, ih]
theorem unRow_stirRow (m : List UInt32) (r k : Nat) (l : List UInt32) (hl : l.length = 16) (hk : k ≤ 8) : unRow m r k (stirRow m r 8 l) = stirRow m r (8 - k) l := by
  induction k with
  | zero => rfl
  | succ k ih =>
    rw [unRow, ih (by omega), show 8 - k = (7 - k) + 1 by omega, stirRow, unAt_stirAt m r (7 - k) _ (by rw [stirRow_length, hl]) (by omega), show 8 - (k + 1) = 7 - k by omega]
theorem stirRow_unRow (m : List UInt32) (r k : Nat) (l : List UInt32) (hl : l.length = 16) (hk : k ≤ 8) : stirRow m r k (unRow m r 8 l) = unRow m r (8 - k) l := by
  induction k with
  | zero => rfl
  | succ k ih =>
    rw [stirRow, ih (by omega), show 8 - k = (7 - k) + 1 by omega, unRow, show 7 - (7 - k) = k by omega, stirAt_unAt m r k _ (by rw [unRow_length, hl]) (by omega), show 8 - (k + 1) = 7 - k by omega]
theorem uns_stirs_part (m : List UInt32) (k : Nat) (l : List UInt32) (hl : l.length = 16) (hk : k ≤ 10) : uns m k (stirs m 10 l) = stirs m (10 - k) l := by
  induction k with
  | zero => rfl
  | succ k ih =>
    rw [uns, ih (by omega), show 10 - k = (9 - k) + 1 by omega, stirs, unRow_stirRow m (9 - k) 8 _ (by rw [stirs_length, hl]) (by omega), show 10 - (k + 1) = 9 - k by omega]
    rfl
theorem stirs_uns_part (m : List UInt32) (k : Nat) (l : List UInt32) (hl : l.length = 16) (hk : k ≤ 10) : stirs m k (uns m 10 l) = uns m (10 - k) l := by
  induction k with
  | zero => rfl
  | succ k ih =>
    rw [stirs, ih (by omega), show 10 - k = (9 - k) + 1 by omega, uns, show 9 - (9 - k) = k by omega, stirRow_unRow m k 8 _ (by rw [uns_length, hl]) (by omega), show 10 - (k + 1) = 9 - k by omega]
    rfl
/-- EACH IS THE WAY BACK FROM THE OTHER. -/
theorem uns_stirs (m : List UInt32) (l : List UInt32) (hl : l.length = 16) : uns m 10 (stirs m 10 l) = l := uns_stirs_part m 10 l hl (by omega)
theorem stirs_uns (m : List UInt32) (l : List UInt32) (hl : l.length = 16) : stirs m 10 (uns m 10 l) = l := stirs_uns_part m 10 l hl (by omega)

/-- A row of the orders as cells. -/
def ordRow (r : Nat) : List Value := ((ordL.drop (r * 16)).take 16).map B8
theorem ordRow_len : ∀ r, r < 10 → (ordRow r).length = 16 := by
  have h : ∀ r, r < 10 → ((ordL.drop (r * 16)).take 16).length = 16 := by decide
  intro r hr; rw [ordRow, List.length_map, h r hr]
theorem ordRow_get (r j : Nat) (hr : r < 10) (hj : j < 16) : (ordRow r)[j]? = some (B8 (ordN r j)) := by
  have hlen : ordL.length = 160 := by decide +kernel
  have hlt : r * 16 + j < ordL.length := by omega
  simp [ordRow, hj, ordN, List.getElem?_take, List.getElem?_drop, hlt]
theorem ordRow_one (r : Nat) : ∀ v ∈ ordRow r, v.oneCell' = true := by
  intro v hv
  obtain ⟨x, _, rfl⟩ := List.mem_map.1 hv
  rfl
/-- The tables lie in the program's own variables. -/
structure Tabs (w : World) : Prop where
  ord : ∀ i, i < 160 → w.cell? ⟨1, i, none⟩ = some (B8 (ordL.getD i 0))
  plc : ∀ i, i < 32 → w.cell? ⟨2, i, none⟩ = some (B8 (plcL.getD i 0))
  size : 2 < w.heap.size
theorem Tabs.row {w : World} (h : Tabs w) (r : Nat) (hr : r < 10) : w.rangeAt 1 (r * 16) (ordRow r) := by
  intro j v hv
  have hj : j < 16 := by rw [← ordRow_len r hr]; exact (List.getElem?_eq_some_iff.1 hv).1
  rw [ordRow_get r j hr hj] at hv
  rw [h.ord _ (by omega), ← hv]; rfl
theorem Tabs.of_but {w w' : World} {b : Nat} (h : Tabs w) (hb : But b w w') (h2 : 2 < b) : Tabs w' := by
  have := h.size
  exact ⟨fun i hi => by rw [hb.cell (by omega) (by omega)]; exact h.ord i hi, fun i hi => by rw [hb.cell (by omega) (by omega)]; exact h.plc i hi, Nat.lt_of_lt_of_le h.size hb.size⟩
theorem Tabs.of_below {w w' : World} {B : Nat} (h : Tabs w) (hb : Below B w w') (h2 : 2 < B) : Tabs w' := by
  have := h.size
  exact ⟨fun i hi => by rw [hb.cell (by show 1 < B; omega)]; exact h.ord i hi, fun i hi => by rw [hb.cell (by show 2 < B; omega)]; exact h.plc i hi, Nat.lt_of_lt_of_le h.size hb.size⟩
end Go.Proofs.YteomefhjglnghaaDoor.F
