/- Plain: ten rounds of eight stirs on sixteen words, and the way back. No Go text is named here. The walks of stirFour and unstirFour: four places of an array of sixteen words, stirred or taken back; nothing else turns. The walks of Stir and Unstir: for any words, what they answer; nothing that was there turns. -/
import Derived.Test.YtkcnpcjogfhkbaaGreatDoorZ01
import Derived.BigRegion
import Derived.BigQuiet
import Derived.Deep.QuietTactic
import Derived.Deep.RegionHeld3
import Derived.Deep.LoopGhost
set_option linter.unusedSimpArgs false
set_option linter.unusedVariables false
set_option maxRecDepth 100000
namespace Go.Proofs.YtkcnpcjogfhkbaaGreatDoor.F
open Go.RowKit

/-- The orders, row behind row; the places, four behind four. -/
def ordL : List Nat := [0, 1, 2, 3, 4, 5, 6, 7, 8, 9, 10, 11, 12, 13, 14, 15, 14, 10, 4, 8, 9, 15, 13, 6, 1, 12, 0, 2, 11, 7, 5, 3, 11, 8, 12, 0, 5, 2, 15, 13, 10, 14, 3, 6, 7, 1, 9, 4, 7, 9, 3, 1, 13, 12, 11, 14, 2, 6, 5, 10, 4, 0, 15, 8, 9, 0, 5, 7, 2, 4, 10, 15, 14, 1, 11, 12, 6, 8, 3, 13, 2, 12, 6, 10, 0, 11, 8, 3, 4, 13, 7, 5, 15, 14, 1, 9, 12, 5, 1, 15, 14, 13, 4, 10, 0, 7, 6, 3, 9, 2, 8, 11, 13, 11, 7, 14, 12, 1, 3, 9, 5, 0, 15, 4, 8, 6, 2, 10, 6, 15, 14, 9, 11, 3, 0, 8, 12, 2, 13, 7, 1, 4, 10, 5, 10, 2, 8, 4, 7, 6, 1, 5, 15, 11, 9, 14, 3, 12, 13, 0]
def plcL : List Nat := [0, 4, 8, 12, 1, 5, 9, 13, 2, 6, 10, 14, 3, 7, 11, 15, 0, 5, 10, 15, 1, 6, 11, 12, 2, 7, 8, 13, 3, 4, 9, 14]
def ordN (r j : Nat) : Nat := ordL.getD (r * 16 + j) 0
def plcN (i j : Nat) : Nat := plcL.getD (i * 4 + j) 0

/-- One stir of four words, and the way back. -/
def st4 (p : Four) (x y : UInt32) : Four := hf 8 7 (hf 16 12 p x) y
def unst4 (p : Four) (x y : UInt32) : Four := unhf 16 12 (unhf 8 7 p y) x
theorem unst4_st4 (p : Four) (x y : UInt32) : unst4 (st4 p x y) x y = p := by
  unfold unst4 st4; rw [unhf_hf 8 7 (by decide) (by decide), unhf_hf 16 12 (by decide) (by decide)]
theorem st4_unst4 (p : Four) (x y : UInt32) : st4 (unst4 p x y) x y = p := by
  unfold unst4 st4; rw [hf_unhf 16 12 (by decide) (by decide), hf_unhf 8 7 (by decide) (by decide)]

def at4 (l : List UInt32) (p0 p1 p2 p3 : Nat) : Four := ⟨l.getD p0 0, l.getD p1 0, l.getD p2 0, l.getD p3 0⟩
theorem set4_length (l : List UInt32) (p0 p1 p2 p3 : Nat) (q : Four) : (set4 l p0 p1 p2 p3 q).length = l.length := by simp [set4]
theorem at4_set4 (l : List UInt32) (hl : l.length = 16) (p0 p1 p2 p3 : Nat) (q : Four) (l0 : p0 < 16) (l1 : p1 < 16) (l2 : p2 < 16) (l3 : p3 < 16)
    (n01 : p0 ≠ p1) (n02 : p0 ≠ p2) (n03 : p0 ≠ p3) (n12 : p1 ≠ p2) (n13 : p1 ≠ p3) (n23 : p2 ≠ p3) : at4 (set4 l p0 p1 p2 p3 q) p0 p1 p2 p3 = q := by
  obtain ⟨a, b, c, d⟩ := q
  simp [at4, set4, List.getD_eq_getElem?_getD, List.getElem?_set, hl, l0, l1, l2, l3, n01, n02, n03, n12, n13, n23, n01.symm, n02.symm, n03.symm, n12.symm, n13.symm, n23.symm]
theorem set4_set4_at4 (l : List UInt32) (p0 p1 p2 p3 : Nat) (q : Four)
    (n01 : p0 ≠ p1) (n02 : p0 ≠ p2) (n03 : p0 ≠ p3) (n12 : p1 ≠ p2) (n13 : p1 ≠ p3) (n23 : p2 ≠ p3) : set4 (set4 l p0 p1 p2 p3 q) p0 p1 p2 p3 (at4 l p0 p1 p2 p3) = l := by
  apply List.ext_getElem?
  intro i
  simp only [at4, set4, List.getElem?_set, List.length_set, List.getD_eq_getElem?_getD]
  by_cases h3 : p3 = i
  · subst h3
    by_cases h : p3 < l.length <;> simp [h]
  by_cases h2 : p2 = i
  · subst h2
    by_cases h : p2 < l.length <;> simp [h, h3]
  by_cases h1 : p1 = i
  · subst h1
    by_cases h : p1 < l.length <;> simp [h, h2, h3]
  by_cases h0 : p0 = i
  · subst h0
    by_cases h : p0 < l.length <;> simp [h, h1, h2, h3]
  simp [h0, h1, h2, h3]

/-- The places are places, four at a time all different. -/
theorem plc_ok : ∀ i, i < 8 → plcN i 0 < 16 ∧ plcN i 1 < 16 ∧ plcN i 2 < 16 ∧ plcN i 3 < 16 ∧ plcN i 0 ≠ plcN i 1 ∧ plcN i 0 ≠ plcN i 2 ∧ plcN i 0 ≠ plcN i 3 ∧ plcN i 1 ≠ plcN i 2 ∧ plcN i 1 ≠ plcN i 3 ∧ plcN i 2 ≠ plcN i 3 := by decide
theorem ord_ok : ∀ r, r < 10 → ∀ j, j < 16 → ordN r j < 16 := by decide

/-- Stir number i of round r. -/
def stirAt (m : List UInt32) (r i : Nat) (l : List UInt32) : List UInt32 :=
  set4 l (plcN i 0) (plcN i 1) (plcN i 2) (plcN i 3) (st4 (at4 l (plcN i 0) (plcN i 1) (plcN i 2) (plcN i 3)) (m.getD (ordN r (2 * i)) 0) (m.getD (ordN r (2 * i + 1)) 0))
def unAt (m : List UInt32) (r i : Nat) (l : List UInt32) : List UInt32 :=
  set4 l (plcN i 0) (plcN i 1) (plcN i 2) (plcN i 3) (unst4 (at4 l (plcN i 0) (plcN i 1) (plcN i 2) (plcN i 3)) (m.getD (ordN r (2 * i)) 0) (m.getD (ordN r (2 * i + 1)) 0))
theorem stirAt_length (m : List UInt32) (r i : Nat) (l : List UInt32) : (stirAt m r i l).length = l.length := set4_length ..
theorem unAt_length (m : List UInt32) (r i : Nat) (l : List UInt32) : (unAt m r i l).length = l.length := set4_length ..
theorem unAt_stirAt (m : List UInt32) (r i : Nat) (l : List UInt32) (hl : l.length = 16) (hi : i < 8) : unAt m r i (stirAt m r i l) = l := by
  obtain ⟨l0, l1, l2, l3, n01, n02, n03, n12, n13, n23⟩ := plc_ok i hi
  unfold unAt stirAt
  rw [at4_set4 l hl _ _ _ _ _ l0 l1 l2 l3 n01 n02 n03 n12 n13 n23, unst4_st4, set4_set4_at4 l _ _ _ _ _ n01 n02 n03 n12 n13 n23]
theorem stirAt_unAt (m : List UInt32) (r i : Nat) (l : List UInt32) (hl : l.length = 16) (hi : i < 8) : stirAt m r i (unAt m r i l) = l := by
  obtain ⟨l0, l1, l2, l3, n01, n02, n03, n12, n13, n23⟩ := plc_ok i hi
  unfold unAt stirAt
  rw [at4_set4 l hl _ _ _ _ _ l0 l1 l2 l3 n01 n02 n03 n12 n13 n23, st4_unst4, set4_set4_at4 l _ _ _ _ _ n01 n02 n03 n12 n13 n23]

/-- So many stirs of round r; so many rounds. -/
def stirRow (m : List UInt32) (r : Nat) : Nat → List UInt32 → List UInt32
  | 0, l => l
  | i + 1, l => stirAt m r i (stirRow m r i l)
def stirs (m : List UInt32) : Nat → List UInt32 → List UInt32
  | 0, l => l
  | r + 1, l => stirRow m r 8 (stirs m r l)
/-- The way back: the last first. -/
def unRow (m : List UInt32) (r : Nat) : Nat → List UInt32 → List UInt32
  | 0, l => l
  | k + 1, l => unAt m r (7 - k) (unRow m r k l)
def uns (m : List UInt32) : Nat → List UInt32 → List UInt32
  | 0, l => l
  | k + 1, l => unRow m (9 - k) 8 (uns m k l)
theorem stirRow_length (m : List UInt32) (r i : Nat) (l : List UInt32) : (stirRow m r i l).length = l.length := by
  induction i with
  | zero => rfl
  | succ i ih => rw [stirRow, stirAt_length, ih]
theorem unRow_length (m : List UInt32) (r i : Nat) (l : List UInt32) : (unRow m r i l).length = l.length := by
  induction i with
  | zero => rfl
  | succ i ih => rw [unRow, unAt_length, ih]
theorem stirs_length (m : List UInt32) (r : Nat) (l : List UInt32) : (stirs m r l).length = l.length := by
  induction r with
  | zero => rfl
  | succ i ih => rw [stirs, stirRow_length, ih]
theorem uns_length (m : List UInt32) (r : Nat) (l : List UInt32) : (uns m r l).length = l.length := by
  induction r with
  | zero => rfl
  | succ i ih => rw [uns, unRow_length, ih]
theorem unRow_stirRow (m : List UInt32) (r k : Nat) (l : List UInt32) (hl : l.length = 16) (hk : k ≤ 8) : unRow m r k (stirRow m r 8 l) = stirRow m r (8 - k) l := by
  induction k with
  | zero => rfl
  | succ k ih =>
    rw [unRow, ih (by omega), show 8 - k = (7 - k) + 1 by omega, stirRow, unAt_stirAt m r (7 - k) _ (by rw [stirRow_length, hl]) (by omega), show 8 - (k + 1) = 7 - k by omega]
theorem stirRow_unRow (m : List UInt32) (r k : Nat) (l : List UInt32) (hl : l.length = 16) (hk : k ≤ 8) : stirRow m r k (unRow m r 8 l) = unRow m r (8 - k) l := by
  induction k with
  | zero => rfl
  | succ k ih =>
    rw [stirRow, ih (by omega), show 8 - k = (7 - k) + 1 by omega, unRow, show 7 - (7 - k) = k by omega, stirAt_unAt m r k _ (by rw [unRow_length, hl]) (by omega), show 8 - (k + 1) = 7 - k by omega]
theorem uns_stirs_part (m : List UInt32) (k : Nat) (l : List UInt32) (hl : l.length = 16) (hk : k ≤ 10) : uns m k (stirs m 10 l) = stirs m (10 - k) l := by
  induction k with
  | zero => rfl
  | succ k ih =>
    rw [uns, ih (by omega), show 10 - k = (9 - k) + 1 by omega, stirs, unRow_stirRow m (9 - k) 8 _ (by rw [stirs_length, hl]) (by omega), show 10 - (k + 1) = 9 - k by omega]
    rfl
theorem stirs_uns_part (m : List UInt32) (k : Nat) (l : List UInt32) (hl : l.length = 16) (hk : k ≤ 10) : stirs m k (uns m 10 l) = uns m (10 - k) l := by
  induction k with
  | zero => rfl
  | succ k ih =>
    rw [stirs, ih (by omega), show 10 - k = (9 - k) + 1 by omega, uns, show 9 - (9 - k) = k by omega, stirRow_unRow m k 8 _ (by rw [uns_length, hl]) (by omega), show 10 - (k + 1) = 9 - k by omega]
    rfl
/-- EACH IS THE WAY BACK FROM THE OTHER. -/
theorem uns_stirs (m : List UInt32) (l : List UInt32) (hl : l.length = 16) : uns m 10 (stirs m 10 l) = l := uns_stirs_part m 10 l hl (by omega)
theorem stirs_uns (m : List UInt32) (l : List UInt32) (hl : l.length = 16) : stirs m 10 (uns m 10 l) = l := stirs_uns_part m 10 l hl (by omega)

/-- A row of the orders as cells. -/
def ordRow (r : Nat) : List Value := ((ordL.drop (r * 16)).take 16).map B8
theorem ordRow_len : ∀ r, r < 10 → (ordRow r).length = 16 := by
  have h : ∀ r, r < 10 → ((ordL.drop (r * 16)).take 16).length = 16 := by decide
  intro r hr; rw [ordRow, List.length_map, h r hr]
theorem ordRow_get (r j : Nat) (hr : r < 10) (hj : j < 16) : (ordRow r)[j]? = some (B8 (ordN r j)) := by
  have hlen : ordL.length = 160 := by decide +kernel
  have hlt : r * 16 + j < ordL.length := by omega
  simp [ordRow, hj, ordN, List.getElem?_take, List.getElem?_drop, hlt]
theorem ordRow_one (r : Nat) : ∀ v ∈ ordRow r, v.oneCell' = true := by
  intro v hv
  obtain ⟨x, _, rfl⟩ := List.mem_map.1 hv
  rfl
/-- The tables lie in the program's own variables. -/
structure Tabs (w : World) : Prop where
  ord : ∀ i, i < 160 → w.cell? ⟨3, i, none⟩ = some (B8 (ordL.getD i 0))
  plc : ∀ i, i < 32 → w.cell? ⟨4, i, none⟩ = some (B8 (plcL.getD i 0))
  size : 4 < w.heap.size
theorem Tabs.row {w : World} (h : Tabs w) (r : Nat) (hr : r < 10) : w.rangeAt 3 (r * 16) (ordRow r) := by
  intro j v hv
  have hj : j < 16 := by rw [← ordRow_len r hr]; exact (List.getElem?_eq_some_iff.1 hv).1
  rw [ordRow_get r j hr hj] at hv
  rw [h.ord _ (by omega), ← hv]; rfl
theorem Tabs.of_but {w w' : World} {b : Nat} (h : Tabs w) (hb : But b w w') (h2 : 4 < b) : Tabs w' := by
  have := h.size
  exact ⟨fun i hi => by rw [hb.cell (by omega) (by omega)]; exact h.ord i hi, fun i hi => by rw [hb.cell (by omega) (by omega)]; exact h.plc i hi, Nat.lt_of_lt_of_le h.size hb.size⟩
theorem Tabs.of_below {w w' : World} {B : Nat} (h : Tabs w) (hb : Below B w w') (h2 : 4 < B) : Tabs w' := by
  have := h.size
  exact ⟨fun i hi => by rw [hb.cell (by show 3 < B; omega)]; exact h.ord i hi, fun i hi => by rw [hb.cell (by show 4 < B; omega)]; exact h.plc i hi, Nat.lt_of_lt_of_le h.size hb.size⟩
end Go.Proofs.YtkcnpcjogfhkbaaGreatDoor.F
namespace Go.Proofs.YtkcnpcjogfhkbaaGreatDoor.F
open Go.RowKit

set_option maxHeartbeats 1000000 in
theorem stirFour_cells (b p0 p1 p2 p3 : Nat) (x0 x1 x2 x3 x y : UInt32) (w : World) (hb : b < w.heap.size)
    (l0 : p0 < 16) (l1 : p1 < 16) (l2 : p2 < 16) (l3 : p3 < 16)
    (n01 : p0 ≠ p1) (n02 : p0 ≠ p2) (n03 : p0 ≠ p3) (n12 : p1 ≠ p2) (n13 : p1 ≠ p3) (n23 : p2 ≠ p3)
    (c0 : w.cell? ⟨b, p0, none⟩ = some (U x0)) (c1 : w.cell? ⟨b, p1, none⟩ = some (U x1)) (c2 : w.cell? ⟨b, p2, none⟩ = some (U x2)) (c3 : w.cell? ⟨b, p3, none⟩ = some (U x3))
    (f0 : w.frozen? ⟨b, p0, none⟩ = false) (f1 : w.frozen? ⟨b, p1, none⟩ = false) (f2 : w.frozen? ⟨b, p2, none⟩ = false) (f3 : w.frozen? ⟨b, p3, none⟩ = false) :
    Calls Tryz.prog 135 #[.pointer (some ⟨b, 0, none⟩), .agg #[B8 p0, B8 p1, B8 p2, B8 p3], U x, U y] w fun e w' => e = .returned (.tuple #[]) ∧ ∃ n, w' = (put4 (w.alloc (.cells #[B8 p0, B8 p1, B8 p2, B8 p3] 191)) b p0 p1 p2 p3 (st4 ⟨x0, x1, x2, x3⟩ x y)).drewN n := by
  have hne : ¬ b = w.heap.size := by omega
  go_enter Tryz.func135, Tryz.ntmps135
  go_wp2_with fail
  go_quiet (fail)
  go_wp2_with fail
  refine (half_16 _ _ _ _ _ _).mono ?_
  rintro e w' ⟨rfl, rfl⟩
  generalize h1 : hf 16 12 _ x = q1
  have H1 : Hid (hf 16 12 _ x = q1) := h1
  clear h1
  go_wp2_with fail
  refine (half_8 _ _ _ _ _ _).mono ?_
  rintro e w' ⟨rfl, rfl⟩
  generalize h2 : hf 8 7 _ y = q2
  have H2 : Hid (hf 8 7 q1 y = q2) := h2
  clear h2
  go_wp2_with fail
  obtain ⟨w1, hw1⟩ : ∃ w1, w1 = (w.alloc (.cells #[B8 p0, B8 p1, B8 p2, B8 p3] 191)).drewN nq := ⟨_, rfl⟩
  have d0 : w1.cell? ⟨b, p0, none⟩ = some (U x0) := by rw [hw1, World.cell?_drewN, World.cell?_alloc_past _ _ _ hb]; exact c0
  have g0 : w1.frozen? ⟨b, p0, none⟩ = false := by rw [hw1, World.frozen?_drewN, World.frozen?_alloc_past _ _ _ hb]; exact f0
  have e0 : w1.cell? ⟨w.heap.size, 0, none⟩ = some (B8 p0) := by rw [hw1]; simp
  have d1 : w1.cell? ⟨b, p1, none⟩ = some (U x1) := by rw [hw1, World.cell?_drewN, World.cell?_alloc_past _ _ _ hb]; exact c1
  have g1 : w1.frozen? ⟨b, p1, none⟩ = false := by rw [hw1, World.frozen?_drewN, World.frozen?_alloc_past _ _ _ hb]; exact f1
  have e1 : w1.cell? ⟨w.heap.size, 1, none⟩ = some (B8 p1) := by rw [hw1]; simp
  have d2 : w1.cell? ⟨b, p2, none⟩ = some (U x2) := by rw [hw1, World.cell?_drewN, World.cell?_alloc_past _ _ _ hb]; exact c2
  have g2 : w1.frozen? ⟨b, p2, none⟩ = false := by rw [hw1, World.frozen?_drewN, World.frozen?_alloc_past _ _ _ hb]; exact f2
  have e2 : w1.cell? ⟨w.heap.size, 2, none⟩ = some (B8 p2) := by rw [hw1]; simp
  have d3 : w1.cell? ⟨b, p3, none⟩ = some (U x3) := by rw [hw1, World.cell?_drewN, World.cell?_alloc_past _ _ _ hb]; exact c3
  have g3 : w1.frozen? ⟨b, p3, none⟩ = false := by rw [hw1, World.frozen?_drewN, World.frozen?_alloc_past _ _ _ hb]; exact f3
  have e3 : w1.cell? ⟨w.heap.size, 3, none⟩ = some (B8 p3) := by rw [hw1]; simp
  rw [← hw1]
  have HW : Hid (w1 = (w.alloc (.cells #[B8 p0, B8 p1, B8 p2, B8 p3] 191)).drewN nq) := hw1
  clear hw1 c0 c1 c2 c3 f0 f1 f2 f3 hb
  generalize w.heap.size = bp at *
  go_region
  go_end0
  refine ⟨rfl, nq + 1, ?_⟩
  have e : st4 ⟨x0, x1, x2, x3⟩ x y = q2 := by rw [← H2.out, ← H1.out]; rfl
  rw [e, HW.out]
  rfl

/-- The same of an array that is known whole. -/
theorem stirFour_any (b p0 p1 p2 p3 : Nat) (t : TypeId) (l : List UInt32) (x y : UInt32) (w : World) (h : Holds w b t l) (hl : l.length = 16)
    (l0 : p0 < 16) (l1 : p1 < 16) (l2 : p2 < 16) (l3 : p3 < 16)
    (n01 : p0 ≠ p1) (n02 : p0 ≠ p2) (n03 : p0 ≠ p3) (n12 : p1 ≠ p2) (n13 : p1 ≠ p3) (n23 : p2 ≠ p3) :
    Calls Tryz.prog 135 #[.pointer (some ⟨b, 0, none⟩), .agg #[B8 p0, B8 p1, B8 p2, B8 p3], U x, U y] w fun e w' => e = .returned (.tuple #[]) ∧
      Holds w' b t (set4 l p0 p1 p2 p3 (st4 (at4 l p0 p1 p2 p3) x y)) ∧ But b w w' := by
  refine (stirFour_cells b p0 p1 p2 p3 (l.getD p0 0) (l.getD p1 0) (l.getD p2 0) (l.getD p3 0) x y w h.lt l0 l1 l2 l3 n01 n02 n03 n12 n13 n23
    (h.cell _ (by omega)) (h.cell _ (by omega)) (h.cell _ (by omega)) (h.cell _ (by omega)) (h.frozen _) (h.frozen _) (h.frozen _) (h.frozen _)).mono ?_
  rintro e w' ⟨rfl, n, rfl⟩
  exact ⟨rfl, ((h.alloc _).put4 _ _ _ _ _).drewN n, (((But.refl b w).alloc _).put4 _ _ _ _ _).drewN n⟩

end Go.Proofs.YtkcnpcjogfhkbaaGreatDoor.F
namespace Go.Proofs.YtkcnpcjogfhkbaaGreatDoor.F
open Go.RowKit
theorem results_cell {P : Program} {fn : Func} {p : Tmp} {ty : TypeId} (h : fn.results = #[.cell p ty]) (tmps : Array Value) (w : World) (b o : Nat) (cs : List Value) (d : TypeDesc)
    (hp : tmps.getD p undef = .pointer (some ⟨b, o, none⟩)) (hc : w.rangeAt b o cs) (hu : P.underlying ty = some d) (hd : d.isRow = true) (hi : (P.info? ty).map (·.size) = some cs.length) :
    (results fn tmps).run P w = .ok (.agg cs.toArray) w := by
  have := run_loadVar_mid w b o ty cs d hc hu hd hi
  rw [Array.getD_eq_getD_getElem?] at hp
  simp only [results, h]
  simp [Sem.run_bind, hp, asAddr, this]
theorem size23 : (Tryz.prog.info? 176).map (·.size) = some 16 := by kernel_rfl
theorem arr_one (l : List UInt32) : (arr l).all (·.oneCell') = true := all_oneCell_toArray (fun v hv => by obtain ⟨x, _, rfl⟩ := List.mem_map.1 hv; rfl)
abbrev z16 : Array Value := #[.int .u8 0, .int .u8 0, .int .u8 0, .int .u8 0, .int .u8 0, .int .u8 0, .int .u8 0, .int .u8 0, .int .u8 0, .int .u8 0, .int .u8 0, .int .u8 0, .int .u8 0, .int .u8 0, .int .u8 0, .int .u8 0]
theorem z16_get : ∀ j, j < 16 → (z16[j]?).isSome = true := by decide
theorem size44 : (Tryz.prog.info? 187).map (·.size) = some 16 := by kernel_rfl
set_option maxHeartbeats 400000 in
theorem stir_any (l m : List UInt32) (hl : l.length = 16) (hm : m.length = 16) (w : World) (hT : Tabs w) :
    Calls Tryz.prog 130 #[.agg (arr l), .agg (arr m)] w fun e w' => e = .returned (.agg (arr (stirs m 10 l))) ∧ Below w.heap.size w w' := by
  have s1 := arr_size
  have hT0 : Hid (4 < w.heap.size) := hT.size
  go_enter Tryz.func130, Tryz.ntmps130
  go_wp2_with fail
  obtain ⟨w2, hw2⟩ : ∃ w2, w2 = ((w.alloc (Obj.cells (arr l) 176)).alloc (Obj.cells (arr m) 176)).alloc (Obj.cells (arr (List.replicate 16 0)) 176) := ⟨_, rfl⟩
  have a1 : Holds w2 w.heap.size 176 l := by rw [hw2]; exact ((Holds.new w 176 l).alloc _).alloc _
  have a2 : Holds w2 (w.heap.size + 1) 176 m := by rw [hw2]; have := Holds.new (w.alloc (Obj.cells (arr l) 176)) 176 m; rw [World.size_alloc] at this; exact this.alloc _
  have a3 : Holds w2 (w.heap.size + 1 + 1) 176 (List.replicate 16 0) := by rw [hw2]; have := Holds.new ((w.alloc (Obj.cells (arr l) 176)).alloc (Obj.cells (arr m) 176)) 176 (List.replicate 16 0); rw [World.size_alloc, World.size_alloc] at this; exact this
  have a4 : Hid (Below w.heap.size w w2) := by rw [hw2]; exact (((Below.refl _ w).alloc (Nat.le_refl _) _).alloc (by simp) _).alloc (by simp; omega) _
  have a5 : Hid (w.heap.size + 3 = w2.heap.size) := by rw [hw2]; simp [Hid]
  change Code.wp _ _ _ _ (((w.alloc (Obj.cells (arr l) 176)).alloc (Obj.cells (arr m) 176)).alloc (Obj.cells (arr (List.replicate 16 0)) 176))
  rw [← hw2]
  clear hw2
  go_loopg [8] 10 (fun k v8 wr => ∃ r : Nat, r + k = 10 ∧ v8 = .int .i64 r ∧ Holds wr w.heap.size 176 (stirs m r l) ∧ But w.heap.size w2 wr)
  case atStart => exact ⟨0, rfl, rfl, a1, But.refl _ _⟩
  case round =>
    obtain ⟨r, hr, rfl, hv, hb⟩ := hrel
    by_cases hlt : r < 10
    · have hr10 : (r : Int) < 10 := by omega
      have hrow := ((hT.of_below a4.out hT0.out).of_but hb hT0.out).row r hlt
      have hi44 : (Tryz.prog.info? 187).map (·.size) = some (ordRow r).length := by rw [size44, ordRow_len r hlt]
      have hi44' : (Tryz.prog.info? 187).map (·.size) = some (ordRow r).toArray.size := by rw [List.size_toArray]; exact hi44
      have h1c : (ordRow r).toArray.all (·.oneCell') = true := all_oneCell_toArray (ordRow_one r)
      have hth : (wr.alloc (Obj.cells z16 187)).there wr.heap.size 0 (ordRow r).toArray.size := by
        intro j hj
        rw [List.size_toArray, ordRow_len r hlt] at hj
        rw [Nat.zero_add, World.cell?_alloc_new, World.frozen?_alloc_new]
        exact ⟨z16_get j hj, rfl⟩
      go_wp2_with (first
        | (refine wpList_load_mid rfl 187 (.tmp 12) rfl 3 (r * 16) rfl (ordRow r) _ hrow Tryz.underlying187 rfl hi44 ?_)
        | (refine wpList_store_mid rfl 187 (.tmp 6) (.tmp 13) rfl wr.heap.size 0 (ordRow r).toArray rfl rfl hth hi44' h1c ?_))
      obtain ⟨w3, hw3⟩ : ∃ w3, w3 = (wr.alloc (Obj.cells z16 187)).setCells wr.heap.size 0 (ordRow r) := ⟨_, rfl⟩
      have b3 : But w.heap.size wr w3 := by rw [hw3]; exact But.setNews (Nat.le_refl _) _ _ _ ((But.refl _ _).alloc _)
      have r3 : w3.rangeAt wr.heap.size 0 (ordRow r) := by rw [hw3]; exact World.rangeAt_setCells_same _ _ _ _ (by simpa using hth)
      have z3 : Hid (wr.heap.size < w3.heap.size) := by show _ < _; rw [hw3, size_setCells, World.size_alloc]; omega
      have g0 : Hid (w.heap.size + 3 ≤ wr.heap.size) := by have := hb.size; have := a5.out; show _ ≤ _; omega
      have T3 := ((hT.of_below a4.out hT0.out).of_but hb hT0.out).of_but b3 hT0.out
      have M3 : Holds w3 (w.heap.size + 1) 176 m := b3.holds (hb.holds a2 (by omega)) (by omega)
      have v3 : Holds w3 w.heap.size 176 (stirs m r l) := by
        have := hv.alloc (Obj.cells z16 187)
        rw [hw3]
        unfold Holds
        rw [((But.setNews (b := wr.heap.size) (u := wr) (Nat.le_refl _) (ordRow r) 0 _ ((But.refl _ _).alloc _))).block _ hv.lt (by have := hv.lt; omega)]
        exact hv
      rw [← hw3]
      clear hw3 hth hi44 hi44' h1c hrow
      have hLl : (stirs m r l).length = 16 := by rw [stirs_length, hl]
      obtain ⟨wo, rfl⟩ : ∃ wo : World, wo = wr := ⟨_, rfl⟩
      obtain ⟨ko, rfl⟩ : ∃ ko : Nat, ko = gk := ⟨_, rfl⟩
      go_loopg [14] 8 (fun k v14 wi => ∃ i : Nat, i + k = 8 ∧ v14 = .int .i64 i ∧ Holds wi w.heap.size 176 (stirRow m r i (stirs m r l)) ∧ But w.heap.size w3 wi)
      case atStart => exact ⟨0, rfl, rfl, v3, But.refl _ _⟩
      case round =>
        obtain ⟨i, hi, rfl, hvi, hbi⟩ := hrel
        by_cases hil : i < 8
        · have hi8 : (i : Int) < 8 := by omega
          obtain ⟨lp0, lp1, lp2, lp3, n01, n02, n03, n12, n13, n23⟩ := plc_ok i hil
          have lj0 := ord_ok r hlt (2 * i) (by omega)
          have lj1 := ord_ok r hlt (2 * i + 1) (by omega)
          have hst : Hid (stirAt m r i (stirRow m r i (stirs m r l)) = stirRow m r (i + 1) (stirs m r l)) := rfl
          unfold stirAt at hst
          have ord0 := r3 (2 * i) _ (ordRow_get r (2 * i) hlt (by omega))
          have ord1 := r3 (2 * i + 1) _ (ordRow_get r (2 * i + 1) hlt (by omega))
          rw [Nat.zero_add] at ord0 ord1
          have mx := M3.cell (ordN r (2 * i)) (by omega)
          have my := M3.cell (ordN r (2 * i + 1)) (by omega)
          have pc0 : w3.cell? ⟨4, i * 4, none⟩ = some (B8 (plcN i 0)) := T3.plc (i * 4) (by omega)
          have pc1 : w3.cell? ⟨4, i * 4 + 1, none⟩ = some (B8 (plcN i 1)) := T3.plc (i * 4 + 1) (by omega)
          have pc2 : w3.cell? ⟨4, i * 4 + 2, none⟩ = some (B8 (plcN i 2)) := T3.plc (i * 4 + 2) (by omega)
          have pc3 : w3.cell? ⟨4, i * 4 + 3, none⟩ = some (B8 (plcN i 3)) := T3.plc (i * 4 + 3) (by omega)
          generalize plcN i 0 = p0 at *
          generalize plcN i 1 = p1 at *
          generalize plcN i 2 = p2 at *
          generalize plcN i 3 = p3 at *
          generalize ordN r (2 * i) = j0 at *
          generalize ordN r (2 * i + 1) = j1 at *
          generalize m.getD j0 0 = x at *
          generalize m.getD j1 0 = y at *
          have HS : Hid (∀ w', But w.heap.size w3 w' → (w'.cell? ⟨4, i * 4, none⟩ = some (B8 p0) ∧ w'.cell? ⟨4, i * 4 + 1, none⟩ = some (B8 p1) ∧ w'.cell? ⟨4, i * 4 + 2, none⟩ = some (B8 p2) ∧ w'.cell? ⟨4, i * 4 + 3, none⟩ = some (B8 p3) ∧
              w'.cell? ⟨wo.heap.size, 2 * i, none⟩ = some (B8 j0) ∧ w'.cell? ⟨wo.heap.size, 2 * i + 1, none⟩ = some (B8 j1) ∧ w'.cell? ⟨w.heap.size + 1, j0, none⟩ = some (U x) ∧ w'.cell? ⟨w.heap.size + 1, j1, none⟩ = some (U y))) := by
            have := hT0.out
            have := g0.out
            have := z3.out
            have := T3.size
            intro w' hw'
            refine ⟨?_, ?_, ?_, ?_, ?_, ?_, ?_, ?_⟩
            all_goals rw [hw'.cell (by omega) (by omega)]
            all_goals assumption
          have k0 : (0 : Int) ≤ 2 * (i : Int) := by omega
          have k1 : 2 * (i : Int) < 16 := by omega
          have k2 : (0 : Int) ≤ 2 * (i : Int) + 1 := by omega
          have k3 : 2 * (i : Int) + 1 < 16 := by omega
          have kw0 : IntKind.i64.wrap (2 * (i : Int)) = 2 * (i : Int) := IntWalk.i64_in _ ⟨by omega, by omega⟩
          have kw1 : IntKind.i64.wrap (2 * (i : Int) + 1) = 2 * (i : Int) + 1 := IntWalk.i64_in _ ⟨by omega, by omega⟩
          have k4 : (2 * (i : Int)).toNat = 2 * i := by omega
          have k5 : (2 * (i : Int) + 1).toNat = 2 * i + 1 := by omega
          have bx0 : (0 : Int) ≤ (j0 : Int) := by omega
          have bx1 : (j0 : Int) < 16 := by omega
          have by0 : (0 : Int) ≤ (j1 : Int) := by omega
          have by1 : (j1 : Int) < 16 := by omega
          have hLi : (stirRow m r i (stirs m r l)).length = 16 := by rw [stirRow_length, hLl]
          generalize stirRow m r i (stirs m r l) = L at *
          clear ord0 ord1 mx my pc0 pc1 pc2 pc3 M3 T3 r3 v3
          have hvd : Holds wr.drew w.heap.size 176 L := hvi
          go_wp2_with fail
          go_region_held3 (fun w' => (w'.cell? ⟨4, i * 4, none⟩ = some (B8 p0) ∧ w'.cell? ⟨4, i * 4 + 1, none⟩ = some (B8 p1) ∧ w'.cell? ⟨4, i * 4 + 2, none⟩ = some (B8 p2) ∧ w'.cell? ⟨4, i * 4 + 3, none⟩ = some (B8 p3) ∧
              w'.cell? ⟨wo.heap.size, 2 * i, none⟩ = some (B8 j0) ∧ w'.cell? ⟨wo.heap.size, 2 * i + 1, none⟩ = some (B8 j1) ∧ w'.cell? ⟨w.heap.size + 1, j0, none⟩ = some (U x) ∧ w'.cell? ⟨w.heap.size + 1, j1, none⟩ = some (U y)))
            (first | exact HS.out _ hbi.drew | exact HS.out _ (hbi.trans hb'.of_drew))
            (first | (go_at_call 135; refine (stirFour_any w.heap.size p0 p1 p2 p3 176 L x y _ hvd hLi lp0 lp1 lp2 lp3 n01 n02 n03 n12 n13 n23).mono ?_; rintro e w' ⟨rfl, hv', hb'⟩))
          go_wp2_with fail
          go_roundg (gk - 1)
          case measure => omega
          case rel => exact ⟨i + 1, by omega, by go_num, by rw [← hst.out]; exact hv', hbi.trans hb'.of_drew⟩
        · go_wp2_with fail
          obtain rfl : i = 8 := by omega
          go_roundg (ko - 1)
          case measure => omega
          case rel => exact ⟨r + 1, by omega, by go_num, hvi, (hb.trans b3).trans hbi⟩
    · have hrd : Hid (r = 10) := by show r = 10; omega
      have hLl : (stirs m r l).length = 16 := by rw [stirs_length, hl]
      generalize hLd : stirs m r l = L at *
      have HL : Hid (stirs m r l = L) := hLd
      clear hLd
      have hrg := hv.range
      have h3 := hb.holds a3 (by omega)
      have hth : wr.there (w.heap.size + 1 + 1) 0 (L.map U).toArray.size := by
        intro j hj
        rw [List.size_toArray, List.length_map, hLl] at hj
        rw [Nat.zero_add, h3.cell j (by simpa using hj), h3.frozen]
        exact ⟨rfl, rfl⟩
      have hi23 : (Tryz.prog.info? 176).map (·.size) = some (L.map U).length := by rw [size23, List.length_map, hLl]
      have hi23' : (Tryz.prog.info? 176).map (·.size) = some (L.map U).toArray.size := by rw [size23, List.size_toArray, List.length_map, hLl]
      have h1c := arr_one L
      generalize hAd : L.map U = A at *
      have HA : Hid (L.map U = A) := hAd
      clear hAd
      have h1c' : A.toArray.all (·.oneCell') = true := by rw [← HA.out]; exact h1c
      clear h1c hLl
      go_wp2_with (first
        | (refine wpList_load_mid rfl 176 (.tmp 2) rfl w.heap.size 0 rfl A _ hrg Tryz.underlying176 rfl hi23 ?_)
        | (refine wpList_store_mid rfl 176 (.tmp 4) (.tmp 36) rfl (w.heap.size + 1 + 1) 0 A.toArray rfl rfl hth hi23' h1c' ?_))
      refine bodyPost_ret (v := .agg A.toArray) (results_cell Tryz.results130 _ _ (w.heap.size + 1 + 1) 0 A _ rfl (World.rangeAt_setCells_same _ _ _ _ (by simpa using hth)) Tryz.underlying176 rfl hi23) rfl ⟨?_, ?_⟩
      · rw [← HA.out, ← HL.out, hrd.out]; rfl
      · exact Below.setNews (by omega) _ _ _ (a4.out.trans (hb.below (by have := a5.out; omega) (Nat.le_refl _)))
end Go.Proofs.YtkcnpcjogfhkbaaGreatDoor.F
