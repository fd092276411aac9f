/- Plain: a stir as a list of steps, each with its way back: the same words come out. No Go text is named here. -/
import Derived.Test.YteomefhjglnghaaDoorFRounds
set_option linter.unusedSimpArgs false
set_option linter.unusedVariables false
set_option maxRecDepth 100000
namespace Go.Proofs.YteomefhjglnghaaDoor.F
open Go.RowKit

/-- Turned once more. -/
theorem rr_succ (k : Nat) (hk : k < 32) (x : UInt32) : (rr (k + 1) x).toNat = (rr k x).toNat / 2 + (rr k x).toNat % 2 * 2147483648 := by
  have hx := ult x
  rw [rr_toNat (k + 1) (by omega), rr_toNat k (by omega)]
  have m1 := mul_mod_two x.toNat (k + 1) (by omega)
  have m2 := mul_mod_two x.toNat k (by omega)
  rw [m1, m2, show 32 - (k + 1) = 31 - k by omega]
  have e1 : (2 : Nat) ^ (32 - k) = 2 * 2 ^ (31 - k) := by rw [show 32 - k = (31 - k) + 1 by omega, Nat.pow_succ, Nat.mul_comm]
  have e2 : x.toNat % 2 ^ (k + 1) = x.toNat % 2 ^ k + 2 ^ k * (x.toNat / 2 ^ k % 2) := Nat.mod_pow_succ
  have e3 : x.toNat / 2 ^ (k + 1) = x.toNat / 2 ^ k / 2 := by rw [Nat.pow_succ, Nat.div_div_eq_div_mul]
  have e4 : (2 : Nat) ^ (31 - k) * 2 ^ k = 2147483648 := by rw [← Nat.pow_add, show 31 - k + k = 31 by omega]
  rw [e1, e2, e3]
  generalize x.toNat / 2 ^ k = q
  generalize x.toNat % 2 ^ k = r
  have e5 : 2 ^ (31 - k) * (r + 2 ^ k * (q % 2)) = 2 ^ (31 - k) * r + 2147483648 * (q % 2) := by rw [Nat.mul_add, ← Nat.mul_assoc, e4]
  rw [e5, Nat.mul_assoc]
  generalize 2 ^ (31 - k) * r = z
  omega
theorem rr_zero (x : UInt32) : rr 0 x = x := by
  apply UInt32.toNat_inj.1
  have hx := ult x
  rw [rr_toNat 0 (by omega)]
  simp only [Nat.sub_zero, Nat.pow_zero, Nat.div_one]
  omega

/-- A step. -/
structure Stp where
  at_ : Nat
  other : Nat
  more : Int
  turn : Nat
def Stp.ok (s : Stp) : Prop := s.at_ < 16 ∧ s.other < 16 ∧ s.more < 16 ∧ -1 ≤ s.more ∧ s.turn < 32

def app (m l : List UInt32) (s : Stp) : List UInt32 :=
  if 0 < s.turn then l.set s.at_ (rr s.turn (uxor (l.getD s.at_ 0) (l.getD s.other 0)))
  else if 0 ≤ s.more then (l.set s.at_ (uadd (l.getD s.at_ 0) (l.getD s.other 0))).set s.at_ (uadd ((l.set s.at_ (uadd (l.getD s.at_ 0) (l.getD s.other 0))).getD s.at_ 0) (m.getD s.more.toNat 0))
  else l.set s.at_ (uadd (l.getD s.at_ 0) (l.getD s.other 0))
def unapp (m l : List UInt32) (s : Stp) : List UInt32 :=
  if 0 < s.turn then l.set s.at_ (uxor (rr (32 - s.turn) (l.getD s.at_ 0)) (l.getD s.other 0))
  else if 0 ≤ s.more then (l.set s.at_ (usub (l.getD s.at_ 0) (l.getD s.other 0))).set s.at_ (usub ((l.set s.at_ (usub (l.getD s.at_ 0) (l.getD s.other 0))).getD s.at_ 0) (m.getD s.more.toNat 0))
  else l.set s.at_ (usub (l.getD s.at_ 0) (l.getD s.other 0))
theorem app_length (m l : List UInt32) (s : Stp) : (app m l s).length = l.length := by
  unfold app; repeat' split
  all_goals simp
theorem unapp_length (m l : List UInt32) (s : Stp) : (unapp m l s).length = l.length := by
  unfold unapp; repeat' split
  all_goals simp

/-- The four steps of half a stir. -/
def stp4 (p0 p1 p2 p3 x tD tB : Nat) : List Stp := [⟨p0, p1, x, 0⟩, ⟨p3, p0, -1, tD⟩, ⟨p2, p3, -1, 0⟩, ⟨p1, p2, -1, tB⟩]

theorem getD_set_self (l : List UInt32) (i : Nat) (x : UInt32) (h : i < l.length) : (l.set i x).getD i 0 = x := by simp [h]
theorem getD_set_ne (l : List UInt32) (i j : Nat) (x : UInt32) (h : i ≠ j) : (l.set i x).getD j 0 = l.getD j 0 := by simp [List.getD_eq_getElem?_getD, List.getElem?_set, h]
theorem usub_usub (a b c : UInt32) : usub (usub a b) c = usub a (uadd b c) := by
  unfold usub uadd
  apply UInt32.toNat_inj.1
  have ha := ult a
  have hb := ult b
  have hc := ult c
  rw [UInt32.toNat_sub, UInt32.toNat_sub, UInt32.toNat_sub, UInt32.toNat_add]
  omega

theorem app4 (m l : List UInt32) (hl : l.length = 16) (p0 p1 p2 p3 x tD tB : Nat) (hD : 0 < tD) (hB : 0 < tB) (l0 : p0 < 16) (l1 : p1 < 16) (l2 : p2 < 16) (l3 : p3 < 16)
    (n01 : p0 ≠ p1) (n02 : p0 ≠ p2) (n03 : p0 ≠ p3) (n12 : p1 ≠ p2) (n13 : p1 ≠ p3) (n23 : p2 ≠ p3) :
    (stp4 p0 p1 p2 p3 x tD tB).foldl (app m) l = set4 l p0 p1 p2 p3 (hf tD tB (at4 l p0 p1 p2 p3) (m.getD x 0)) := by
  simp only [stp4, List.foldl_cons, List.foldl_nil]
  have s1 : app m l ⟨p0, p1, x, 0⟩ = l.set p0 (uadd (l.getD p0 0) (uadd (l.getD p1 0) (m.getD x 0))) := by
    simp only [app, Nat.lt_irrefl, if_false, if_pos (Int.natCast_nonneg x), Int.toNat_natCast]
    rw [getD_set_self _ _ _ (by omega), List.set_set, uadd_assoc]
  rw [s1]
  generalize hA : uadd (l.getD p0 0) (uadd (l.getD p1 0) (m.getD x 0)) = A
  have s2 : app m (l.set p0 A) ⟨p3, p0, -1, tD⟩ = (l.set p0 A).set p3 (rr tD (uxor (l.getD p3 0) A)) := by
    simp only [app, hD, if_true]
    rw [getD_set_ne _ _ _ _ n03, getD_set_self _ _ _ (by omega)]
  rw [s2]
  generalize hDd : rr tD (uxor (l.getD p3 0) A) = D
  have s3 : app m ((l.set p0 A).set p3 D) ⟨p2, p3, -1, 0⟩ = ((l.set p0 A).set p3 D).set p2 (uadd (l.getD p2 0) D) := by
    simp only [app, Nat.lt_irrefl, if_false, if_neg (show ¬ (0 : Int) ≤ -1 by decide)]
    rw [getD_set_ne _ _ _ _ n23.symm, getD_set_ne _ _ _ _ n02, getD_set_self _ _ _ (by simp; omega)]
  rw [s3]
  generalize hC : uadd (l.getD p2 0) D = C
  have s4 : app m (((l.set p0 A).set p3 D).set p2 C) ⟨p1, p2, -1, tB⟩ = (((l.set p0 A).set p3 D).set p2 C).set p1 (rr tB (uxor (l.getD p1 0) C)) := by
    simp only [app, hB, if_true]
    rw [getD_set_ne _ _ _ _ n12.symm, getD_set_ne _ _ _ _ n13.symm, getD_set_ne _ _ _ _ n01, getD_set_self _ _ _ (by simp; omega)]
  rw [s4]
  simp only [set4, hf, at4, hA, hDd, hC]
  rw [List.set_comm C _ n12.symm, List.set_comm D _ n13.symm, List.set_comm D C n23.symm]

theorem unapp4 (m l : List UInt32) (hl : l.length = 16) (p0 p1 p2 p3 x tD tB : Nat) (hD : 0 < tD) (hB : 0 < tB) (l0 : p0 < 16) (l1 : p1 < 16) (l2 : p2 < 16) (l3 : p3 < 16)
    (n01 : p0 ≠ p1) (n02 : p0 ≠ p2) (n03 : p0 ≠ p3) (n12 : p1 ≠ p2) (n13 : p1 ≠ p3) (n23 : p2 ≠ p3) :
    (stp4 p0 p1 p2 p3 x tD tB).reverse.foldl (unapp m) l = set4 l p0 p1 p2 p3 (unhf tD tB (at4 l p0 p1 p2 p3) (m.getD x 0)) := by
  simp only [stp4, List.reverse_cons, List.reverse_nil, List.nil_append, List.cons_append, List.foldl_cons, List.foldl_nil]
  have s1 : unapp m l ⟨p1, p2, -1, tB⟩ = l.set p1 (uxor (rr (32 - tB) (l.getD p1 0)) (l.getD p2 0)) := by
    simp only [unapp, hB, if_true]
  rw [s1]
  generalize hBb : uxor (rr (32 - tB) (l.getD p1 0)) (l.getD p2 0) = B
  have s2 : unapp m (l.set p1 B) ⟨p2, p3, -1, 0⟩ = (l.set p1 B).set p2 (usub (l.getD p2 0) (l.getD p3 0)) := by
    simp only [unapp, Nat.lt_irrefl, if_false, if_neg (show ¬ (0 : Int) ≤ -1 by decide)]
    rw [getD_set_ne _ _ _ _ n12, getD_set_ne _ _ _ _ n13]
  rw [s2]
  generalize hC : usub (l.getD p2 0) (l.getD p3 0) = C
  have s3 : unapp m ((l.set p1 B).set p2 C) ⟨p3, p0, -1, tD⟩ = ((l.set p1 B).set p2 C).set p3 (uxor (rr (32 - tD) (l.getD p3 0)) (l.getD p0 0)) := by
    simp only [unapp, hD, if_true]
    rw [getD_set_ne _ _ _ _ n23, getD_set_ne _ _ _ _ n13, getD_set_ne _ _ _ _ n02.symm, getD_set_ne _ _ _ _ n01.symm]
  rw [s3]
  generalize hDd : uxor (rr (32 - tD) (l.getD p3 0)) (l.getD p0 0) = D
  have s4 : unapp m (((l.set p1 B).set p2 C).set p3 D) ⟨p0, p1, x, 0⟩ = (((l.set p1 B).set p2 C).set p3 D).set p0 (usub (l.getD p0 0) (uadd B (m.getD x 0))) := by
    simp only [unapp, Nat.lt_irrefl, if_false, if_pos (Int.natCast_nonneg x), Int.toNat_natCast]
    rw [getD_set_self _ _ _ (by simp; omega), List.set_set, usub_usub]
    rw [getD_set_ne _ _ _ _ n03.symm, getD_set_ne _ _ _ _ n02.symm, getD_set_ne _ _ _ _ n01.symm, getD_set_ne _ _ _ _ n13.symm, getD_set_ne _ _ _ _ n12.symm, getD_set_self _ _ _ (by omega)]
  rw [s4]
  simp only [set4, unhf, at4, hBb, hDd, hC]
  rw [List.set_comm D _ n03.symm, List.set_comm C _ n02.symm, List.set_comm B _ n01.symm]

theorem set4_set4 (l : List UInt32) (p0 p1 p2 p3 : Nat) (q q' : Four)
    (n01 : p0 ≠ p1) (n02 : p0 ≠ p2) (n03 : p0 ≠ p3) (n12 : p1 ≠ p2) (n13 : p1 ≠ p3) (n23 : p2 ≠ p3) : set4 (set4 l p0 p1 p2 p3 q) p0 p1 p2 p3 q' = set4 l p0 p1 p2 p3 q' := by
  simp only [set4]
  rw [List.set_comm q.d q'.a n03.symm, List.set_comm q.c q'.a n02.symm, List.set_comm q.b q'.a n01.symm, List.set_set]
  rw [List.set_comm q.d q'.b n13.symm, List.set_comm q.c q'.b n12.symm, List.set_set]
  rw [List.set_comm q.d q'.c n23.symm, List.set_set, List.set_set]

/-- The eight steps of stir number i of round r. -/
def stp8 (r i : Nat) : List Stp := stp4 (plcN i 0) (plcN i 1) (plcN i 2) (plcN i 3) (ordN r (2 * i)) 16 12 ++ stp4 (plcN i 0) (plcN i 1) (plcN i 2) (plcN i 3) (ordN r (2 * i + 1)) 8 7
theorem app8 (m l : List UInt32) (hl : l.length = 16) (r i : Nat) (hi : i < 8) : (stp8 r i).foldl (app m) l = stirAt m r i l := by
  obtain ⟨l0, l1, l2, l3, n01, n02, n03, n12, n13, n23⟩ := plc_ok i hi
  rw [stp8, List.foldl_append, app4 m l hl _ _ _ _ _ 16 12 (by decide) (by decide) l0 l1 l2 l3 n01 n02 n03 n12 n13 n23,
    app4 m _ (by rw [set4_length, hl]) _ _ _ _ _ 8 7 (by decide) (by decide) l0 l1 l2 l3 n01 n02 n03 n12 n13 n23,
    at4_set4 l hl _ _ _ _ _ l0 l1 l2 l3 n01 n02 n03 n12 n13 n23, set4_set4 _ _ _ _ _ _ _ n01 n02 n03 n12 n13 n23]
  rfl
theorem unapp8 (m l : List UInt32) (hl : l.length = 16) (r i : Nat) (hi : i < 8) : (stp8 r i).reverse.foldl (unapp m) l = unAt m r i l := by
  obtain ⟨l0, l1, l2, l3, n01, n02, n03, n12, n13, n23⟩ := plc_ok i hi
  rw [stp8, List.reverse_append, List.foldl_append, unapp4 m l hl _ _ _ _ _ 8 7 (by decide) (by decide) l0 l1 l2 l3 n01 n02 n03 n12 n13 n23,
    unapp4 m _ (by rw [set4_length, hl]) _ _ _ _ _ 16 12 (by decide) (by decide) l0 l1 l2 l3 n01 n02 n03 n12 n13 n23,
    at4_set4 l hl _ _ _ _ _ l0 l1 l2 l3 n01 n02 n03 n12 n13 n23, set4_set4 _ _ _ _ _ _ _ n01 n02 n03 n12 n13 n23]
  rfl

/-- All steps: round behind round. -/
def stpRow (r : Nat) : Nat → List Stp
  | 0 => []
  | i + 1 => stpRow r i ++ stp8 r i
def stpAll : Nat → List Stp
  | 0 => []
  | r + 1 => stpAll r ++ stpRow r 8
theorem stp8_length (r i : Nat) : (stp8 r i).length = 8 := rfl
theorem stpRow_length (r i : Nat) : (stpRow r i).length = 8 * i := by
  induction i with
  | zero => rfl
  | succ i ih => rw [stpRow, List.length_append, ih, stp8_length]; omega
theorem stpAll_length (r : Nat) : (stpAll r).length = 64 * r := by
  induction r with
  | zero => rfl
  | succ i ih => rw [stpAll, List.length_append, ih, stpRow_length]; omega
theorem appRow (m l : List UInt32) (hl : l.length = 16) (r i : Nat) (hi : i ≤ 8) : (stpRow r i).foldl (app m) l = stirRow m r i l := by
  induction i with
  | zero => rfl
  | succ i ih => rw [stpRow, List.foldl_append, ih (by omega), app8 m _ (by rw [stirRow_length, hl]) r i (by omega), stirRow]
theorem appAll (m l : List UInt32) (hl : l.length = 16) (r : Nat) : (stpAll r).foldl (app m) l = stirs m r l := by
  induction r with
  | zero => rfl
  | succ r ih => rw [stpAll, List.foldl_append, ih, appRow m _ (by rw [stirs_length, hl]) r 8 (by omega), stirs]
theorem foldl_unapp_length (m : List UInt32) : ∀ (ss : List Stp) (l : List UInt32), (ss.foldl (unapp m) l).length = l.length
  | [], _ => rfl
  | s :: ss, l => by rw [List.foldl_cons, foldl_unapp_length m ss, unapp_length]
theorem foldl_app_length (m : List UInt32) : ∀ (ss : List Stp) (l : List UInt32), (ss.foldl (app m) l).length = l.length
  | [], _ => rfl
  | s :: ss, l => by rw [List.foldl_cons, foldl_app_length m ss, app_length]
/-- The last i stirs of a round taken back, the last first. -/
theorem unRow_part (m : List UInt32) (r : Nat) : ∀ (k i : Nat) (l : List UInt32), l.length = 16 → k + i = 8 → (stpRow r i).reverse.foldl (unapp m) (unRow m r k l) = unRow m r 8 l := by
  intro k i
  induction i generalizing k with
  | zero =>
    intro l _ h
    obtain rfl : k = 8 := by omega
    rw [stpRow, List.reverse_nil, List.foldl_nil]
  | succ i ih =>
    intro l hl h
    rw [stpRow, List.reverse_append, List.foldl_append, unapp8 m _ (by rw [unRow_length, hl]) r i (by omega)]
    have := ih (k + 1) l hl (by omega)
    rw [show unRow m r (k + 1) l = unAt m r (7 - k) (unRow m r k l) from rfl, show 7 - k = i by omega] at this
    exact this
theorem unAll_part (m : List UInt32) : ∀ (k r : Nat) (l : List UInt32), l.length = 16 → k + r = 10 → (stpAll r).reverse.foldl (unapp m) (uns m k l) = uns m 10 l := by
  intro k r
  induction r generalizing k with
  | zero =>
    intro l _ h
    obtain rfl : k = 10 := by omega
    rw [stpAll, List.reverse_nil, List.foldl_nil]
  | succ r ih =>
    intro l hl h
    rw [stpAll, List.reverse_append, List.foldl_append]
    have h8 : (stpRow r 8).reverse.foldl (unapp m) (uns m k l) = unRow m r 8 (uns m k l) := unRow_part m r 0 8 (uns m k l) (by rw [uns_length, hl]) (by omega)
    have := ih (k + 1) l hl (by omega)
    rw [show uns m (k + 1) l = unRow m (9 - k) 8 (uns m k l) from rfl, show 9 - k = r by omega] at this
    rw [h8, this]
theorem unappAll (m l : List UInt32) (hl : l.length = 16) : (stpAll 10).reverse.foldl (unapp m) l = uns m 10 l := unAll_part m 0 10 l hl (by omega)

theorem stp8_ok (r i : Nat) (hr : r < 10) (hi : i < 8) : ∀ s ∈ stp8 r i, s.ok := by
  obtain ⟨l0, l1, l2, l3, _⟩ := plc_ok i hi
  have x := ord_ok r hr (2 * i) (by omega)
  have y := ord_ok r hr (2 * i + 1) (by omega)
  intro s hs
  simp only [stp8, stp4, List.cons_append, List.nil_append, List.mem_cons, List.not_mem_nil, or_false] at hs
  rcases hs with rfl | rfl | rfl | rfl | rfl | rfl | rfl | rfl <;> simp only [Stp.ok] <;> omega
theorem stpRow_ok (r i : Nat) (hr : r < 10) (hi : i ≤ 8) : ∀ s ∈ stpRow r i, s.ok := by
  induction i with
  | zero => intro s hs; cases hs
  | succ i ih =>
    intro s hs
    rcases List.mem_append.1 hs with h | h
    · exact ih (by omega) s h
    · exact stp8_ok r i hr (by omega) s h
theorem stpAll_ok (r : Nat) (hr : r ≤ 10) : ∀ s ∈ stpAll r, s.ok := by
  induction r with
  | zero => intro s hs; cases hs
  | succ r ih =>
    intro s hs
    rcases List.mem_append.1 hs with h | h
    · exact ih (by omega) s h
    · exact stpRow_ok r 8 (by omega) (by omega) s h

/-- Steps as cells. -/
def stpC (s : Stp) : List Value := [.int .i64 (s.at_ : Int), .int .i64 (s.other : Int), .int .i64 s.more, .int .i64 (s.turn : Int)]
def stpCs (l : List Stp) : List Value := l.flatMap stpC
theorem stpCs_length (l : List Stp) : (stpCs l).length = l.length * 4 := by
  induction l with
  | nil => rfl
  | cons s l ih => rw [stpCs, List.flatMap_cons, List.length_append, List.length_cons, ← stpCs, ih]; simp [stpC]; omega
theorem stpCs_append (a b : List Stp) : stpCs (a ++ b) = stpCs a ++ stpCs b := by simp [stpCs]
theorem stpCs_get (l : List Stp) : ∀ (k : Nat) (hk : k < l.length) (j : Nat), j < 4 → (stpCs l)[k * 4 + j]? = (stpC l[k])[j]? := by
  induction l with
  | nil => intro k hk; simp at hk
  | cons s l ih =>
    intro k hk j hj
    rw [stpCs, List.flatMap_cons, ← stpCs]
    cases k with
    | zero => rw [List.getElem?_append_left (by simp [stpC]; omega)]; simp
    | succ k =>
      have := ih k (by simpa using hk) j hj
      rw [List.getElem?_append_right (by simp [stpC]; omega)]
      simp only [stpC, List.length_cons, List.length_nil, List.getElem_cons_succ] at this ⊢
      rw [← this]
      congr 1
      omega
theorem stpCs_one (l : List Stp) : ∀ v ∈ stpCs l, v.oneCell' = true := by
  intro v hv
  obtain ⟨s, _, hs⟩ := List.mem_flatMap.1 hv
  simp only [stpC, List.mem_cons, List.not_mem_nil, or_false] at hs
  rcases hs with rfl | rfl | rfl | rfl <;> rfl
end Go.Proofs.YteomefhjglnghaaDoor.F
