/- The walks of the laws' own helpers: small, sum, product; texts of numbers. The walk of the law NatRing. The walk of the law NatEuclid. What is wrong with two texts that are handed in as a fraction. The walk of times: products of fractions. Fractions read out of texts. -/
import Derived.Test.YtflabehlaiocaaaDoorKb
import Derived.Test.YtflabehlaiocaaaDoorKd
import Derived.Test.YtflabehlaiocaaaDoorBaseE
import Derived.Test.YtflabehlaiocaaaDoorBaseF
import Derived.Test.YtflabehlaiocaaaDoorKc
import Derived.Deep.CutBlock
import Derived.Deep.DeepCutAuto
set_option linter.unusedSimpArgs false
set_option linter.unusedVariables false
namespace Go.Proofs.YtflabehlaiocaaaDoor
open Go.RowKit Go.Deep Go.PlainAid

/-- The text of a number. -/
def T (n : Nat) : ByteArray := ⟨(txt n).toArray⟩
theorem T_list (n : Nat) : (T n).data.toList = txt n := by simp [T]
theorem T_size (n : Nat) : (T n).size = (txt n).length := by rw [← size_list, T_list]
theorem T_bv (n : Nat) : bv (T n).data.toList = n := by rw [T_list, bv_txt]
theorem T_inj {n m : Nat} (h : T n = T m) : n = m := by
  have : txt n = txt m := by rw [← T_list, h, T_list]
  exact txt_inj this
theorem T_wr (n : Nat) (h : (txt n).length ≤ 4000) : wrT (T n) = 0 := wrT_ok (by rw [T_list]; exact isNum_txt n) (by rw [T_size]; omega)
theorem T_of (s : ByteArray) (h : isNum s.data.toList = true) : s = T (bv s.data.toList) := by
  have := txt_bv _ h
  cases s with
  | mk d => simp [T, this]
theorem T_lt (s : ByteArray) (k : Nat) (h : isNum s.data.toList = true) (hs : s.size ≤ k) : bv s.data.toList < 10 ^ k := by
  refine Nat.lt_of_lt_of_le (bv_lt _ (isNum_all h)) ?_
  rw [size_list]; exact Nat.pow_le_pow_right (by omega) hs

/-- Are all of them numbers of so many digits at most? -/
def smallB (k : Nat) (s : ByteArray) : Bool := isNum s.data.toList && decide (s.size ≤ k)
theorem small_one {ps : List ByteArray} {K : Nat} (h : ps.all (smallB K) = true) {s : ByteArray} (hs : s ∈ ps) : isNum s.data.toList = true ∧ s.size ≤ K := by
  have := (List.all_eq_true.1 h) s hs
  simpa [smallB] using this
/-- A row of texts that was just made. -/
theorem SRow.new (w : World) (t : TypeId) (ps : List ByteArray) : SRow (w.alloc (.cells (ps.map Value.string).toArray t)) (some ⟨w.heap.size, 0, none⟩) ps := by
  intro i hi
  refine ⟨w.heap.size, 0, rfl, ?_⟩
  have h0 : (w.alloc (.cells (ps.map Value.string).toArray t)).heap[w.heap.size]? = some (.cells (ps.map Value.string).toArray t) := by
    show (w.heap.push _)[w.heap.size]? = _
    simp
  generalize w.alloc (.cells (ps.map Value.string).toArray t) = W at *
  generalize w.heap.size = g at *
  simp [World.cell?, h0, hi]

theorem zeroT : (⟨#[48]⟩ : ByteArray) = T 0 := rfl
theorem oneT : (⟨#[49]⟩ : ByteArray) = T 1 := by
  have : txt 1 = [49] := by simp [txt, dg_pos (show 2 ≤ 10 by omega) (show (1 : Nat) ≠ 0 by omega), dg_zero, chars]
  simp [T, this]
theorem twoT : (⟨#[50]⟩ : ByteArray) = T 2 := by
  have : txt 2 = [50] := by simp [txt, dg_pos (show 2 ≤ 10 by omega) (show (2 : Nat) ≠ 0 by omega), dg_zero, chars]
  simp [T, this]
theorem len_of_lt {n : Nat} (k : Nat) (hk : 1 ≤ k) (h : n < 10 ^ k) (h4 : k ≤ 4000) : (txt n).length ≤ 4000 := Nat.le_trans (txt_len_le n k hk h) h4
end Go.Proofs.YtflabehlaiocaaaDoor
namespace Go.Proofs.YtflabehlaiocaaaDoor
open Go.RowKit Go.Deep Go.PlainAid

theorem pow_mul_lt {n m i j : Nat} (h1 : n < 10 ^ i) (h2 : m < 10 ^ j) : n * m < 10 ^ (i + j) := by
  rw [Nat.pow_add]
  calc n * m ≤ n * 10 ^ j := Nat.mul_le_mul_left _ (by omega)
    _ < 10 ^ i * 10 ^ j := Nat.mul_lt_mul_of_pos_right h1 (by omega)
theorem pow_add_lt {n m i : Nat} (h1 : n < 10 ^ i) (h2 : m < 10 ^ i) : n + m < 10 ^ (i + 1) := by
  have : 10 ^ (i + 1) = 10 ^ i * 10 := Nat.pow_succ _ _
  omega
end Go.Proofs.YtflabehlaiocaaaDoor
namespace Go.Proofs.YtflabehlaiocaaaDoor
open Go.RowKit Go.Deep Go.PlainAid

theorem list_inj {a b : ByteArray} (h : a.data.toList = b.data.toList) : a = b := by
  cases a; cases b; simp only [ByteArray.mk.injEq]; exact Array.toList_inj.1 h
theorem T_ne_nil (n : Nat) : T n ≠ ⟨#[]⟩ := by
  intro h
  have h1 := T_list n
  rw [h] at h1
  have h2 := isNum_txt n
  rw [← h1] at h2
  simp [isNum] at h2

end Go.Proofs.YtflabehlaiocaaaDoor
namespace Go.Proofs.YtflabehlaiocaaaDoor
open Go.RowKit Go.Deep Go.PlainAid

/-- What is wrong with two texts as a fraction: 2 where one is no number, or they are not in lowest terms, 3 where one is too long. -/
def wrF (n d : ByteArray) : Nat :=
  if isNum n.data.toList = false ∨ isNum d.data.toList = false then 2
  else if 4000 < n.size ∨ 4000 < d.size then 3
  else if bv d.data.toList = 0 ∨ Nat.gcd (bv n.data.toList) (bv d.data.toList) ≠ 1 then 2 else 0
theorem wrF_zero {n d : ByteArray} (h : wrF n d = 0) : wrT n = 0 ∧ wrT d = 0 ∧ bv d.data.toList ≠ 0 ∧ Nat.gcd (bv n.data.toList) (bv d.data.toList) = 1 := by
  unfold wrF at h
  split at h
  · omega
  · split at h
    · omega
    · split at h
      · omega
      · rename_i h1 h2 h3
        have e1 : isNum n.data.toList = true := by cases hq : isNum n.data.toList with | true => rfl | false => exact absurd (Or.inl hq) h1
        have e2 : isNum d.data.toList = true := by cases hq : isNum d.data.toList with | true => rfl | false => exact absurd (Or.inr hq) h1
        refine ⟨wrT_ok e1 (by omega), wrT_ok e2 (by omega), fun h => h3 (Or.inl h), ?_⟩
        by_cases hg : Nat.gcd (bv n.data.toList) (bv d.data.toList) = 1
        · exact hg
        · exact absurd (Or.inr hg) h3

theorem toList_yes (s : ByteArray) (l : List UInt8) (h : s = ⟨l.toArray⟩) : (s.toList == l) = true := by
  subst h; rw [ByteArray.toList_eq]; simp
theorem toList_no (s : ByteArray) (l : List UInt8) (h : s ≠ ⟨l.toArray⟩) : (s.toList == l) = false := by
  rw [beq_eq_false_iff_ne]
  intro e
  rw [ByteArray.toList_eq] at e
  exact h (list_inj (by rw [e]))
end Go.Proofs.YtflabehlaiocaaaDoor
namespace Go.Proofs.YtflabehlaiocaaaDoor
open Go.RowKit Go.Deep Go.PlainAid

end Go.Proofs.YtflabehlaiocaaaDoor
namespace Go.Proofs.YtflabehlaiocaaaDoor
open Go.RowKit Go.Deep Go.PlainAid

set_option maxRecDepth 100000 in
set_option maxHeartbeats 4000000 in
theorem terms_ok (n d : ByteArray) (w : World) (nn dd : Nat) (In : Hid (∀ W, Calls Tryd.prog 62 #[.string n] W fun e w' => e = .returned (.bool true) ∧ w' = W)) (Id : Hid (∀ W, Calls Tryd.prog 62 #[.string d] W fun e w' => e = .returned (.bool true) ∧ w' = W)) (hd : (d.toList == [48]) = false) (C1 : Hid (∀ W, Calls Tryd.prog 63 #[.string n] W fun e w' => (∃ v, e = .returned v ∧ NumV w' 1000000000 nn v) ∧ Below W.heap.size W w')) (C2 : Hid (∀ W, Calls Tryd.prog 63 #[.string d] W fun e w' => (∃ v, e = .returned v ∧ NumV w' 1000000000 dd v) ∧ Below W.heap.size W w'))  :
    Calls Tryd.prog 50 #[.agg #[.string n, .string d]] w fun e w' => (∃ u1 u2, e = .returned (.tuple #[.agg #[u1, u2], .bool true]) ∧ NumV w' 1000000000 nn u1 ∧ NumV w' 1000000000 dd u2) ∧ Below w.heap.size w w' := by
  go_enter Tryd.func50, Tryd.ntmps50
  go_wp2_with fail
  obtain ⟨U1, hU1⟩ : ∃ X, X = ((w.alloc (.cells #[(.string n), (.string d)] 24)).alloc (.cells #[(.slice none 0 0), (.slice none 0 0)] 39)) := ⟨_, rfl⟩
  have Jx : Hid (IHolds U1 (w.heap.size) 24 [(.string n), (.string d)]) := by
    have q := IHolds.new w 24 [(.string n), (.string d)]
    show IHolds _ _ _ _
    rw [hU1]
    exact (q.alloc _)
  have Jr : Hid (IHolds U1 (w.heap.size + 1) 39 [(.slice none 0 0), (.slice none 0 0)]) := by
    have q := IHolds.new (w.alloc (.cells #[(.string n), (.string d)] 24)) 39 [(.slice none 0 0), (.slice none 0 0)]
    simp only [World.size_alloc, Nat.add_assoc, Nat.reduceAdd] at q
    show IHolds _ _ _ _
    rw [hU1]
    exact q
  have B : Hid (Below w.heap.size w U1) := by
    show Below _ _ _
    rw [hU1]
    exact (((Below.refl _ w).alloc (Nat.le_refl _) _).alloc (by simp only [World.size_alloc]; omega) _)
  rw [← hU1]
  clear hU1
  refine (In.out U1).mono ?_
  rintro e V0 ⟨rfl, rfl⟩
  obtain ⟨zx_0, zx_1⟩ := cJ Jx
  go_wp2_with fail
  clear zx_0 zx_1
  refine (Id.out V0).mono ?_
  rintro e V1 ⟨rfl, rfl⟩
  obtain ⟨zx_0, zx_1⟩ := cJ Jx
  go_wp2_with fail
  clear zx_0 zx_1
  have hb := dB V1
  replace B := aB B hb
  replace Jx := aJ Jx hb
  replace Jr := aJ Jr hb
  clear hb
  refine wp_region_held_drew (S := fun W => IHolds W (w.heap.size) 24 [(.string n), (.string d)]) (by kernel_rfl) Jx.out (fun hHeld1 => ?_)
  generalize V1.drew = U2 at *
  refine tk (i := 0) (v := .pointer (some ⟨w.heap.size, 0, none⟩)) rfl (by kernel_rfl) (fun _ _ _ h => h) rfl ?_ hHeld1 ?_
  · intro W hS; go_simp
  simp only [Act.put, y1, y2, y3, y4, y5, y6, y7]
  refine tk (i := 3) (v := .pointer (some ⟨w.heap.size, 1, none⟩)) rfl (by kernel_rfl) (fun _ _ _ h => h) rfl ?_ hHeld1 ?_
  · intro W hS; go_simp
  simp only [Act.put, y1, y2, y3, y4, y5, y6, y7]
  refine tk (i := 1) (v := (.string n)) rfl (by kernel_rfl) (fun _ _ _ h => h) rfl ?_ hHeld1 ?_
  · intro W hS; obtain ⟨zx_0, zx_1⟩ := c2 hS; go_simp
  simp only [Act.put, y1, y2, y3, y4, y5, y6, y7]
  refine tk (i := 4) (v := (.string d)) rfl (by kernel_rfl) (fun _ _ _ h => h) rfl ?_ hHeld1 ?_
  · intro W hS; obtain ⟨zx_0, zx_1⟩ := c2 hS; go_simp
  simp only [Act.put, y1, y2, y3, y4, y5, y6, y7]
  refine wpAnyH_ready (rs := [2]) (by kernel_rfl) (by simp) ?_
  refine AllReadyH.cons rfl (fun K hK => ?_) AllReadyH.nil
  clear hHeld1
  go_simp
  refine (C1.out U2).mono ?_
  rintro e U3 ⟨⟨x1, rfl, hv⟩, hb⟩
  have Nx1 : Hid (NumV U3 1000000000 (nn) x1) := hv
  clear hv
  replace B := aB B hb
  replace Jx := aJ Jx hb
  replace Jr := aJ Jr hb
  clear hb
  go_wp2_with fail
  refine hK.out _ _ (Jx.out) (fun hHeld2 => ?_)
  clear hK K
  try simp only [Act.put, y1, y2, y3, y4, y5, y6, y7]
  refine wpAnyH_ready (rs := [5]) (by kernel_rfl) (by simp) ?_
  refine AllReadyH.cons rfl (fun K hK => ?_) AllReadyH.nil
  clear hHeld2
  go_simp
  refine (C2.out U3).mono ?_
  rintro e U4 ⟨⟨x2, rfl, hv⟩, hb⟩
  have Nx2 : Hid (NumV U4 1000000000 (dd) x2) := hv
  clear hv
  replace B := aB B hb
  replace Jx := aJ Jx hb
  replace Jr := aJ Jr hb
  replace Nx1 := aN Nx1 hb
  clear hb
  go_wp2_with fail
  refine hK.out _ _ (Jx.out) (fun hHeld3 => ?_)
  clear hK K
  try simp only [Act.put, y1, y2, y3, y4, y5, y6, y7]
  obtain ⟨x1_a, x1_l, x1_c, rfl⟩ := sN Nx1
  obtain ⟨x2_a, x2_l, x2_c, rfl⟩ := sN Nx2
  refine tk (i := 6) (v := .agg #[(.slice x1_a x1_l x1_c), (.slice x2_a x2_l x2_c)]) rfl (by kernel_rfl) (fun _ _ _ h => h) rfl ?_ hHeld3 ?_
  · intro W hS; go_simp
  simp only [Act.put, y1, y2, y3, y4, y5, y6, y7]
  refine wpAnyH_ready (rs := [7]) (by kernel_rfl) (by simp) ?_
  refine AllReadyH.cons rfl (fun K hK => ?_) AllReadyH.nil
  clear hHeld3
  obtain ⟨zr_0, zr_1⟩ := cJ Jr
  have f0 := fJ Jr
  have hBut : But (w.heap.size + 1) U4 ((U4.setCell ⟨w.heap.size + 1, 0, none⟩ (.slice x1_a x1_l x1_c)).setCell ⟨w.heap.size + 1, 1, none⟩ (.slice x2_a x2_l x2_c)) := (((But.refl _ U4).setCell 0 (.slice x1_a x1_l x1_c)).setCell 1 (.slice x2_a x2_l x2_c))
  have I4 : Hid (IHolds _ (w.heap.size + 1) 39 [(.slice x1_a x1_l x1_c), (.slice x2_a x2_l x2_c)]) := ((Jr.out.set 0 (.slice x1_a x1_l x1_c)).set 1 (.slice x2_a x2_l x2_c))
  replace B : Hid (Below w.heap.size w ((U4.setCell ⟨w.heap.size + 1, 0, none⟩ (.slice x1_a x1_l x1_c)).setCell ⟨w.heap.size + 1, 1, none⟩ (.slice x2_a x2_l x2_c))) := ((B.out.setCell (by first | exact Nat.le_refl _ | exact ge_r.out | (show w.heap.size ≤ w.heap.size + 1; omega)) _).setCell (by first | exact Nat.le_refl _ | exact ge_r.out | (show w.heap.size ≤ w.heap.size + 1; omega)) _)
  replace Jx := tJ Jx hBut (by omega)
  replace Nx1 := tN Nx1 Jr (by simp) hBut
  replace Nx2 := tN Nx2 Jr (by simp) hBut
  replace Jr := I4
  clear I4 hBut
  go_simp
  try go_wp2_with fail
  clear zr_0 zr_1
  clear f0
  generalize ((U4.setCell ⟨w.heap.size + 1, 0, none⟩ (.slice x1_a x1_l x1_c)).setCell ⟨w.heap.size + 1, 1, none⟩ (.slice x2_a x2_l x2_c)) = U5 at *
  refine hK.out _ _ (Jx.out) (fun hHeld4 => ?_)
  clear hK K
  try simp only [Act.put, y1, y2, y3, y4, y5, y6, y7]
  refine tk (i := 8) (v := .bool true) rfl (by kernel_rfl) (fun _ _ _ h => h) rfl ?_ hHeld4 ?_
  · intro W hS; go_simp
  simp only [Act.put, y1, y2, y3, y4, y5, y6, y7]
  refine wpAnyH_done (by kernel_rfl) ?_ _
  clear hHeld4
  go_wp2_with fail
  have E0 : Hid (U5.cell? ⟨w.heap.size + 1, 0, none⟩ = some ((.slice x1_a x1_l x1_c))) := IHolds.cell (l := [(.slice x1_a x1_l x1_c), (.slice x2_a x2_l x2_c)]) (t := 39) (b := w.heap.size + 1) (w := U5) Jr.out 0 (by simp)
  have E1 : Hid (U5.cell? ⟨w.heap.size + 1, 1, none⟩ = some ((.slice x2_a x2_l x2_c))) := IHolds.cell (l := [(.slice x1_a x1_l x1_c), (.slice x2_a x2_l x2_c)]) (t := 39) (b := w.heap.size + 1) (w := U5) Jr.out 1 (by simp)
  exact bodyPost_ret (v := .tuple #[.agg #[(.slice x1_a x1_l x1_c), (.slice x2_a x2_l x2_c)], .bool true]) (by simp [results, Tryd.results50, go_sem, E0.out, E1.out]) rfl ⟨⟨_, _, rfl, Nx1.out, Nx2.out⟩, B.out⟩
set_option maxRecDepth 100000 in
set_option maxHeartbeats 4000000 in
theorem terms_zero (n d : ByteArray) (w : World) (In : Hid (∀ W, Calls Tryd.prog 62 #[.string n] W fun e w' => e = .returned (.bool true) ∧ w' = W)) (Id : Hid (∀ W, Calls Tryd.prog 62 #[.string d] W fun e w' => e = .returned (.bool true) ∧ w' = W)) (hd : (d.toList == [48]) = true)  :
    Calls Tryd.prog 50 #[.agg #[.string n, .string d]] w fun e w' => e = .returned (.tuple #[.agg #[.slice none 0 0, .slice none 0 0], .bool false]) ∧ Below w.heap.size w w' := by
  go_enter Tryd.func50, Tryd.ntmps50
  go_wp2_with fail
  obtain ⟨U1, hU1⟩ : ∃ X, X = ((w.alloc (.cells #[(.string n), (.string d)] 24)).alloc (.cells #[(.slice none 0 0), (.slice none 0 0)] 39)) := ⟨_, rfl⟩
  have Jx : Hid (IHolds U1 (w.heap.size) 24 [(.string n), (.string d)]) := by
    have q := IHolds.new w 24 [(.string n), (.string d)]
    show IHolds _ _ _ _
    rw [hU1]
    exact (q.alloc _)
  have Jr : Hid (IHolds U1 (w.heap.size + 1) 39 [(.slice none 0 0), (.slice none 0 0)]) := by
    have q := IHolds.new (w.alloc (.cells #[(.string n), (.string d)] 24)) 39 [(.slice none 0 0), (.slice none 0 0)]
    simp only [World.size_alloc, Nat.add_assoc, Nat.reduceAdd] at q
    show IHolds _ _ _ _
    rw [hU1]
    exact q
  have B : Hid (Below w.heap.size w U1) := by
    show Below _ _ _
    rw [hU1]
    exact (((Below.refl _ w).alloc (Nat.le_refl _) _).alloc (by simp only [World.size_alloc]; omega) _)
  rw [← hU1]
  clear hU1
  refine (In.out U1).mono ?_
  rintro e V0 ⟨rfl, rfl⟩
  obtain ⟨zx_0, zx_1⟩ := cJ Jx
  go_wp2_with fail
  clear zx_0 zx_1
  refine (Id.out V0).mono ?_
  rintro e V1 ⟨rfl, rfl⟩
  have Kx : Hid (IHolds V1 (w.heap.size) 24 [(.string n), (.string d)]) := Jx.out
  obtain ⟨zr_0, zr_1⟩ := cJ Jr
  have f0 := fJ Jr
  have hBut : But (w.heap.size + 1) V1 ((V1.setCell ⟨w.heap.size + 1, 0, none⟩ (.slice none 0 0)).setCell ⟨w.heap.size + 1, 1, none⟩ (.slice none 0 0)) := (((But.refl _ V1).setCell 0 (.slice none 0 0)).setCell 1 (.slice none 0 0))
  have I4 : Hid (IHolds _ (w.heap.size + 1) 39 [(.slice none 0 0), (.slice none 0 0)]) := ((Jr.out.set 0 (.slice none 0 0)).set 1 (.slice none 0 0))
  replace B : Hid (Below w.heap.size w ((V1.setCell ⟨w.heap.size + 1, 0, none⟩ (.slice none 0 0)).setCell ⟨w.heap.size + 1, 1, none⟩ (.slice none 0 0))) := ((B.out.setCell (by first | exact Nat.le_refl _ | exact ge_r.out | (show w.heap.size ≤ w.heap.size + 1; omega)) _).setCell (by first | exact Nat.le_refl _ | exact ge_r.out | (show w.heap.size ≤ w.heap.size + 1; omega)) _)
  replace Jx := tJ Jx hBut (by omega)
  replace Jr := I4
  clear I4 hBut
  obtain ⟨zx_0, zx_1⟩ := cJ Kx
  go_wp2_with fail
  clear zx_0 zx_1
  clear Kx
  clear zr_0 zr_1
  clear f0
  generalize ((V1.setCell ⟨w.heap.size + 1, 0, none⟩ (.slice none 0 0)).setCell ⟨w.heap.size + 1, 1, none⟩ (.slice none 0 0)) = U2 at *
  have E0 : Hid (U2.cell? ⟨w.heap.size + 1, 0, none⟩ = some ((.slice none 0 0))) := IHolds.cell (l := [(.slice none 0 0), (.slice none 0 0)]) (t := 39) (b := w.heap.size + 1) (w := U2) Jr.out 0 (by simp)
  have E1 : Hid (U2.cell? ⟨w.heap.size + 1, 1, none⟩ = some ((.slice none 0 0))) := IHolds.cell (l := [(.slice none 0 0), (.slice none 0 0)]) (t := 39) (b := w.heap.size + 1) (w := U2) Jr.out 1 (by simp)
  exact bodyPost_ret (v := .tuple #[.agg #[(.slice none 0 0), (.slice none 0 0)], .bool false]) (by simp [results, Tryd.results50, go_sem, E0.out, E1.out]) rfl ⟨rfl, B.out⟩
set_option maxRecDepth 100000 in
set_option maxHeartbeats 4000000 in
theorem read_ok (n d : ByteArray) (w : World) (nn dd gg : Nat) (C0 : Hid (∀ W, Calls Tryd.prog 50 #[.agg #[.string n, .string d]] W fun e w' => (∃ u1 u2, e = .returned (.tuple #[.agg #[u1, u2], .bool true]) ∧ NumV w' 1000000000 nn u1 ∧ NumV w' 1000000000 dd u2) ∧ Below W.heap.size W w')) (C4 : Hid (∀ W v v', NumV W 1000000000 nn v → NumV W 1000000000 dd v' → Calls Tryd.prog 40 #[v, v'] W fun e w' => (∃ v, e = .returned v ∧ NumV w' 1000000000 gg v) ∧ Below W.heap.size W w')) (C5 : Hid (∀ W v, NumV W 1000000000 gg v → Calls Tryd.prog 51 #[v] W fun e w' => e = .returned (.bool true) ∧ w' = W))  :
    Calls Tryd.prog 37 #[.agg #[.string n, .string d]] w fun e w' => (∃ u1 u2, e = .returned (.tuple #[.agg #[u1, u2], .bool true]) ∧ NumV w' 1000000000 nn u1 ∧ NumV w' 1000000000 dd u2) ∧ Below w.heap.size w w' := by
  go_enter Tryd.func37, Tryd.ntmps37
  go_wp2_with fail
  obtain ⟨U1, hU1⟩ : ∃ X, X = ((w.alloc (.cells #[(.string n), (.string d)] 24)).alloc (.cells #[(.slice none 0 0), (.slice none 0 0)] 39)) := ⟨_, rfl⟩
  have Jx : Hid (IHolds U1 (w.heap.size) 24 [(.string n), (.string d)]) := by
    have q := IHolds.new w 24 [(.string n), (.string d)]
    show IHolds _ _ _ _
    rw [hU1]
    exact (q.alloc _)
  have Jr : Hid (IHolds U1 (w.heap.size + 1) 39 [(.slice none 0 0), (.slice none 0 0)]) := by
    have q := IHolds.new (w.alloc (.cells #[(.string n), (.string d)] 24)) 39 [(.slice none 0 0), (.slice none 0 0)]
    simp only [World.size_alloc, Nat.add_assoc, Nat.reduceAdd] at q
    show IHolds _ _ _ _
    rw [hU1]
    exact q
  have B : Hid (Below w.heap.size w U1) := by
    show Below _ _ _
    rw [hU1]
    exact (((Below.refl _ w).alloc (Nat.le_refl _) _).alloc (by simp only [World.size_alloc]; omega) _)
  rw [← hU1]
  clear hU1
  refine (C0.out U1).mono ?_
  rintro e U2 ⟨⟨x1, x2, rfl, hv, hv'⟩, hb⟩
  have Nx1 : Hid (NumV U2 1000000000 (nn) x1) := hv
  have Nx2 : Hid (NumV U2 1000000000 (dd) x2) := hv'
  clear hv hv'
  replace B := aB B hb
  replace Jx := aJ Jx hb
  replace Jr := aJ Jr hb
  clear hb
  have nr : Hid (w.heap.size + 1 < U2.heap.size) := Jr.out.lt
  obtain ⟨x1_a, x1_l, x1_c, rfl⟩ := sN Nx1
  obtain ⟨x2_a, x2_l, x2_c, rfl⟩ := sN Nx2
  have hb := nB U2 (.cells #[(.slice x1_a x1_l x1_c), (.slice x2_a x2_l x2_c)] 39)
  have Jl : Hid (IHolds (U2.alloc (.cells #[(.slice x1_a x1_l x1_c), (.slice x2_a x2_l x2_c)] 39)) U2.heap.size 39 [(.slice x1_a x1_l x1_c), (.slice x2_a x2_l x2_c)]) := IHolds.new _ _ _
  have ne_x_l := nJ Jx
  have ne_r_l := nJ Jr
  have ge_l : Hid (w.heap.size ≤ U2.heap.size) := B.out.size
  replace B := aB B hb
  replace Jx := aJ Jx hb
  replace Jr := aJ Jr hb
  replace Nx1 := aN Nx1 hb
  replace Nx2 := aN Nx2 hb
  clear hb
  go_wp2_with fail
  generalize (U2.alloc (.cells #[(.slice x1_a x1_l x1_c), (.slice x2_a x2_l x2_c)] 39)) = U3 at *
  generalize U2.heap.size = b4 at *
  refine (C4.out U3 _ _ Nx1.out Nx2.out).mono ?_
  rintro e U5 ⟨⟨yg, rfl, hv⟩, hb⟩
  have Nyg : Hid (NumV U5 1000000000 (gg) yg) := hv
  clear hv
  replace B := aB B hb
  replace Jx := aJ Jx hb
  replace Jr := aJ Jr hb
  replace Jl := aJ Jl hb
  replace Nx1 := aN Nx1 hb
  replace Nx2 := aN Nx2 hb
  clear hb
  go_wp2_with fail
  refine (C5.out U5 yg Nyg.out).mono ?_
  rintro e Uo ⟨rfl, rfl⟩
  have Kl : Hid (IHolds Uo (b4) 39 [(.slice x1_a x1_l x1_c), (.slice x2_a x2_l x2_c)]) := Jl.out
  obtain ⟨zr_0, zr_1⟩ := cJ Jr
  have f0 := fJ Jr
  have hBut : But (w.heap.size + 1) Uo ((Uo.setCell ⟨w.heap.size + 1, 0, none⟩ (.slice x1_a x1_l x1_c)).setCell ⟨w.heap.size + 1, 1, none⟩ (.slice x2_a x2_l x2_c)) := (((But.refl _ Uo).setCell 0 (.slice x1_a x1_l x1_c)).setCell 1 (.slice x2_a x2_l x2_c))
  have I4 : Hid (IHolds _ (w.heap.size + 1) 39 [(.slice x1_a x1_l x1_c), (.slice x2_a x2_l x2_c)]) := ((Jr.out.set 0 (.slice x1_a x1_l x1_c)).set 1 (.slice x2_a x2_l x2_c))
  replace B : Hid (Below w.heap.size w ((Uo.setCell ⟨w.heap.size + 1, 0, none⟩ (.slice x1_a x1_l x1_c)).setCell ⟨w.heap.size + 1, 1, none⟩ (.slice x2_a x2_l x2_c))) := ((B.out.setCell (by first | exact Nat.le_refl _ | exact ge_r.out | (show w.heap.size ≤ w.heap.size + 1; omega)) _).setCell (by first | exact Nat.le_refl _ | exact ge_r.out | (show w.heap.size ≤ w.heap.size + 1; omega)) _)
  replace Jx := tJ Jx hBut (by first | exact ne_x_r.out | exact fun h => ne_r_x.out h.symm | omega)
  replace Jl := tJ Jl hBut (by first | exact ne_l_r.out | exact fun h => ne_r_l.out h.symm | omega)
  replace Nx1 := tN Nx1 Jr (by simp) hBut
  replace Nx2 := tN Nx2 Jr (by simp) hBut
  replace Nyg := tN Nyg Jr (by simp) hBut
  replace Jr := I4
  clear I4 hBut
  obtain ⟨zl_0, zl_1⟩ := cJ Kl
  go_wp2_with fail
  clear zl_0 zl_1
  clear Kl
  clear zr_0 zr_1
  clear f0
  generalize ((Uo.setCell ⟨w.heap.size + 1, 0, none⟩ (.slice x1_a x1_l x1_c)).setCell ⟨w.heap.size + 1, 1, none⟩ (.slice x2_a x2_l x2_c)) = U6 at *
  have E0 : Hid (U6.cell? ⟨w.heap.size + 1, 0, none⟩ = some ((.slice x1_a x1_l x1_c))) := IHolds.cell (l := [(.slice x1_a x1_l x1_c), (.slice x2_a x2_l x2_c)]) (t := 39) (b := w.heap.size + 1) (w := U6) Jr.out 0 (by simp)
  have E1 : Hid (U6.cell? ⟨w.heap.size + 1, 1, none⟩ = some ((.slice x2_a x2_l x2_c))) := IHolds.cell (l := [(.slice x1_a x1_l x1_c), (.slice x2_a x2_l x2_c)]) (t := 39) (b := w.heap.size + 1) (w := U6) Jr.out 1 (by simp)
  exact bodyPost_ret (v := .tuple #[.agg #[(.slice x1_a x1_l x1_c), (.slice x2_a x2_l x2_c)], .bool true]) (by simp [results, Tryd.results37, go_sem, E0.out, E1.out]) rfl ⟨⟨_, _, rfl, Nx1.out, Nx2.out⟩, B.out⟩
set_option maxRecDepth 100000 in
set_option maxHeartbeats 4000000 in
theorem read_zero (n d : ByteArray) (w : World) (C0 : Hid (∀ W, Calls Tryd.prog 50 #[.agg #[.string n, .string d]] W fun e w' => e = .returned (.tuple #[.agg #[.slice none 0 0, .slice none 0 0], .bool false]) ∧ Below W.heap.size W w'))  :
    Calls Tryd.prog 37 #[.agg #[.string n, .string d]] w fun e w' => e = .returned (.tuple #[.agg #[.slice none 0 0, .slice none 0 0], .bool false]) ∧ Below w.heap.size w w' := by
  go_enter Tryd.func37, Tryd.ntmps37
  go_wp2_with fail
  obtain ⟨U1, hU1⟩ : ∃ X, X = ((w.alloc (.cells #[(.string n), (.string d)] 24)).alloc (.cells #[(.slice none 0 0), (.slice none 0 0)] 39)) := ⟨_, rfl⟩
  have Jx : Hid (IHolds U1 (w.heap.size) 24 [(.string n), (.string d)]) := by
    have q := IHolds.new w 24 [(.string n), (.string d)]
    show IHolds _ _ _ _
    rw [hU1]
    exact (q.alloc _)
  have Jr : Hid (IHolds U1 (w.heap.size + 1) 39 [(.slice none 0 0), (.slice none 0 0)]) := by
    have q := IHolds.new (w.alloc (.cells #[(.string n), (.string d)] 24)) 39 [(.slice none 0 0), (.slice none 0 0)]
    simp only [World.size_alloc, Nat.add_assoc, Nat.reduceAdd] at q
    show IHolds _ _ _ _
    rw [hU1]
    exact q
  have B : Hid (Below w.heap.size w U1) := by
    show Below _ _ _
    rw [hU1]
    exact (((Below.refl _ w).alloc (Nat.le_refl _) _).alloc (by simp only [World.size_alloc]; omega) _)
  rw [← hU1]
  clear hU1
  refine (C0.out U1).mono ?_
  rintro e U2 ⟨rfl, hb⟩
  replace B := aB B hb
  replace Jx := aJ Jx hb
  replace Jr := aJ Jr hb
  clear hb
  have nr : Hid (w.heap.size + 1 < U2.heap.size) := Jr.out.lt
  have hb := nB U2 (.cells #[(.slice none 0 0), (.slice none 0 0)] 39)
  have Jl : Hid (IHolds (U2.alloc (.cells #[(.slice none 0 0), (.slice none 0 0)] 39)) U2.heap.size 39 [(.slice none 0 0), (.slice none 0 0)]) := IHolds.new _ _ _
  have ne_x_l := nJ Jx
  have ne_r_l := nJ Jr
  have ge_l : Hid (w.heap.size ≤ U2.heap.size) := B.out.size
  replace B := aB B hb
  replace Jx := aJ Jx hb
  replace Jr := aJ Jr hb
  clear hb
  obtain ⟨zr_0, zr_1⟩ := cJ Jr
  have f0 := fJ Jr
  have hBut : But (w.heap.size + 1) (U2.alloc (.cells #[(.slice none 0 0), (.slice none 0 0)] 39)) (((U2.alloc (.cells #[(.slice none 0 0), (.slice none 0 0)] 39)).setCell ⟨w.heap.size + 1, 0, none⟩ (.slice none 0 0)).setCell ⟨w.heap.size + 1, 1, none⟩ (.slice none 0 0)) := (((But.refl _ (U2.alloc (.cells #[(.slice none 0 0), (.slice none 0 0)] 39))).setCell 0 (.slice none 0 0)).setCell 1 (.slice none 0 0))
  have I4 : Hid (IHolds _ (w.heap.size + 1) 39 [(.slice none 0 0), (.slice none 0 0)]) := ((Jr.out.set 0 (.slice none 0 0)).set 1 (.slice none 0 0))
  replace B : Hid (Below w.heap.size w (((U2.alloc (.cells #[(.slice none 0 0), (.slice none 0 0)] 39)).setCell ⟨w.heap.size + 1, 0, none⟩ (.slice none 0 0)).setCell ⟨w.heap.size + 1, 1, none⟩ (.slice none 0 0))) := ((B.out.setCell (by first | exact Nat.le_refl _ | exact ge_r.out | (show w.heap.size ≤ w.heap.size + 1; omega)) _).setCell (by first | exact Nat.le_refl _ | exact ge_r.out | (show w.heap.size ≤ w.heap.size + 1; omega)) _)
  replace Jx := tJ Jx hBut (by first | exact ne_x_r.out | exact fun h => ne_r_x.out h.symm | omega)
  replace Jl := tJ Jl hBut (by first | exact ne_l_r.out | exact fun h => ne_r_l.out h.symm | omega)
  replace Jr := I4
  clear I4 hBut
  go_wp2_with fail
  clear zr_0 zr_1
  clear f0
  generalize (((U2.alloc (.cells #[(.slice none 0 0), (.slice none 0 0)] 39)).setCell ⟨w.heap.size + 1, 0, none⟩ (.slice none 0 0)).setCell ⟨w.heap.size + 1, 1, none⟩ (.slice none 0 0)) = U3 at *
  have E0 : Hid (U3.cell? ⟨w.heap.size + 1, 0, none⟩ = some ((.slice none 0 0))) := IHolds.cell (l := [(.slice none 0 0), (.slice none 0 0)]) (t := 39) (b := w.heap.size + 1) (w := U3) Jr.out 0 (by simp)
  have E1 : Hid (U3.cell? ⟨w.heap.size + 1, 1, none⟩ = some ((.slice none 0 0))) := IHolds.cell (l := [(.slice none 0 0), (.slice none 0 0)]) (t := 39) (b := w.heap.size + 1) (w := U3) Jr.out 1 (by simp)
  exact bodyPost_ret (v := .tuple #[.agg #[(.slice none 0 0), (.slice none 0 0)], .bool false]) (by simp [results, Tryd.results37, go_sem, E0.out, E1.out]) rfl ⟨rfl, B.out⟩
set_option maxRecDepth 100000 in
set_option maxHeartbeats 4000000 in
theorem read_more (n d : ByteArray) (w : World) (nn dd gg : Nat) (C0 : Hid (∀ W, Calls Tryd.prog 50 #[.agg #[.string n, .string d]] W fun e w' => (∃ u1 u2, e = .returned (.tuple #[.agg #[u1, u2], .bool true]) ∧ NumV w' 1000000000 nn u1 ∧ NumV w' 1000000000 dd u2) ∧ Below W.heap.size W w')) (C4 : Hid (∀ W v v', NumV W 1000000000 nn v → NumV W 1000000000 dd v' → Calls Tryd.prog 40 #[v, v'] W fun e w' => (∃ v, e = .returned v ∧ NumV w' 1000000000 gg v) ∧ Below W.heap.size W w')) (C5 : Hid (∀ W v, NumV W 1000000000 gg v → Calls Tryd.prog 51 #[v] W fun e w' => e = .returned (.bool false) ∧ w' = W))  :
    Calls Tryd.prog 37 #[.agg #[.string n, .string d]] w fun e w' => e = .returned (.tuple #[.agg #[.slice none 0 0, .slice none 0 0], .bool false]) ∧ Below w.heap.size w w' := by
  go_enter Tryd.func37, Tryd.ntmps37
  go_wp2_with fail
  obtain ⟨U1, hU1⟩ : ∃ X, X = ((w.alloc (.cells #[(.string n), (.string d)] 24)).alloc (.cells #[(.slice none 0 0), (.slice none 0 0)] 39)) := ⟨_, rfl⟩
  have Jx : Hid (IHolds U1 (w.heap.size) 24 [(.string n), (.string d)]) := by
    have q := IHolds.new w 24 [(.string n), (.string d)]
    show IHolds _ _ _ _
    rw [hU1]
    exact (q.alloc _)
  have Jr : Hid (IHolds U1 (w.heap.size + 1) 39 [(.slice none 0 0), (.slice none 0 0)]) := by
    have q := IHolds.new (w.alloc (.cells #[(.string n), (.string d)] 24)) 39 [(.slice none 0 0), (.slice none 0 0)]
    simp only [World.size_alloc, Nat.add_assoc, Nat.reduceAdd] at q
    show IHolds _ _ _ _
    rw [hU1]
    exact q
  have B : Hid (Below w.heap.size w U1) := by
    show Below _ _ _
    rw [hU1]
    exact (((Below.refl _ w).alloc (Nat.le_refl _) _).alloc (by simp only [World.size_alloc]; omega) _)
  rw [← hU1]
  clear hU1
  refine (C0.out U1).mono ?_
  rintro e U2 ⟨⟨x1, x2, rfl, hv, hv'⟩, hb⟩
  have Nx1 : Hid (NumV U2 1000000000 (nn) x1) := hv
  have Nx2 : Hid (NumV U2 1000000000 (dd) x2) := hv'
  clear hv hv'
  replace B := aB B hb
  replace Jx := aJ Jx hb
  replace Jr := aJ Jr hb
  clear hb
  have nr : Hid (w.heap.size + 1 < U2.heap.size) := Jr.out.lt
  obtain ⟨x1_a, x1_l, x1_c, rfl⟩ := sN Nx1
  obtain ⟨x2_a, x2_l, x2_c, rfl⟩ := sN Nx2
  have hb := nB U2 (.cells #[(.slice x1_a x1_l x1_c), (.slice x2_a x2_l x2_c)] 39)
  have Jl : Hid (IHolds (U2.alloc (.cells #[(.slice x1_a x1_l x1_c), (.slice x2_a x2_l x2_c)] 39)) U2.heap.size 39 [(.slice x1_a x1_l x1_c), (.slice x2_a x2_l x2_c)]) := IHolds.new _ _ _
  have ne_x_l := nJ Jx
  have ne_r_l := nJ Jr
  have ge_l : Hid (w.heap.size ≤ U2.heap.size) := B.out.size
  replace B := aB B hb
  replace Jx := aJ Jx hb
  replace Jr := aJ Jr hb
  replace Nx1 := aN Nx1 hb
  replace Nx2 := aN Nx2 hb
  clear hb
  go_wp2_with fail
  generalize (U2.alloc (.cells #[(.slice x1_a x1_l x1_c), (.slice x2_a x2_l x2_c)] 39)) = U3 at *
  generalize U2.heap.size = b4 at *
  refine (C4.out U3 _ _ Nx1.out Nx2.out).mono ?_
  rintro e U5 ⟨⟨yg, rfl, hv⟩, hb⟩
  have Nyg : Hid (NumV U5 1000000000 (gg) yg) := hv
  clear hv
  replace B := aB B hb
  replace Jx := aJ Jx hb
  replace Jr := aJ Jr hb
  replace Jl := aJ Jl hb
  replace Nx1 := aN Nx1 hb
  replace Nx2 := aN Nx2 hb
  clear hb
  go_wp2_with fail
  refine (C5.out U5 yg Nyg.out).mono ?_
  rintro e Uo ⟨rfl, rfl⟩
  obtain ⟨zr_0, zr_1⟩ := cJ Jr
  have f0 := fJ Jr
  have hBut : But (w.heap.size + 1) Uo ((Uo.setCell ⟨w.heap.size + 1, 0, none⟩ (.slice none 0 0)).setCell ⟨w.heap.size + 1, 1, none⟩ (.slice none 0 0)) := (((But.refl _ Uo).setCell 0 (.slice none 0 0)).setCell 1 (.slice none 0 0))
  have I4 : Hid (IHolds _ (w.heap.size + 1) 39 [(.slice none 0 0), (.slice none 0 0)]) := ((Jr.out.set 0 (.slice none 0 0)).set 1 (.slice none 0 0))
  replace B : Hid (Below w.heap.size w ((Uo.setCell ⟨w.heap.size + 1, 0, none⟩ (.slice none 0 0)).setCell ⟨w.heap.size + 1, 1, none⟩ (.slice none 0 0))) := ((B.out.setCell (by first | exact Nat.le_refl _ | exact ge_r.out | (show w.heap.size ≤ w.heap.size + 1; omega)) _).setCell (by first | exact Nat.le_refl _ | exact ge_r.out | (show w.heap.size ≤ w.heap.size + 1; omega)) _)
  replace Jx := tJ Jx hBut (by first | exact ne_x_r.out | exact fun h => ne_r_x.out h.symm | omega)
  replace Jl := tJ Jl hBut (by first | exact ne_l_r.out | exact fun h => ne_r_l.out h.symm | omega)
  replace Nx1 := tN Nx1 Jr (by simp) hBut
  replace Nx2 := tN Nx2 Jr (by simp) hBut
  replace Nyg := tN Nyg Jr (by simp) hBut
  replace Jr := I4
  clear I4 hBut
  go_wp2_with fail
  clear zr_0 zr_1
  clear f0
  generalize ((Uo.setCell ⟨w.heap.size + 1, 0, none⟩ (.slice none 0 0)).setCell ⟨w.heap.size + 1, 1, none⟩ (.slice none 0 0)) = U6 at *
  have E0 : Hid (U6.cell? ⟨w.heap.size + 1, 0, none⟩ = some ((.slice none 0 0))) := IHolds.cell (l := [(.slice none 0 0), (.slice none 0 0)]) (t := 39) (b := w.heap.size + 1) (w := U6) Jr.out 0 (by simp)
  have E1 : Hid (U6.cell? ⟨w.heap.size + 1, 1, none⟩ = some ((.slice none 0 0))) := IHolds.cell (l := [(.slice none 0 0), (.slice none 0 0)]) (t := 39) (b := w.heap.size + 1) (w := U6) Jr.out 1 (by simp)
  exact bodyPost_ret (v := .tuple #[.agg #[(.slice none 0 0), (.slice none 0 0)], .bool false]) (by simp [results, Tryd.results37, go_sem, E0.out, E1.out]) rfl ⟨rfl, B.out⟩
theorem read_good (n d : ByteArray) (w : World) (a1 : isNum n.data.toList = true) (a2 : isNum d.data.toList = true) (h1 : n.size ≤ 1000000) (h2 : d.size ≤ 1000000) (h0 : bv d.data.toList ≠ 0) (hg : Nat.gcd (bv n.data.toList) (bv d.data.toList) = 1) (b1 : (dg 1000000000 (bv n.data.toList)).length ≤ 1000000) (b2 : (dg 1000000000 (bv d.data.toList)).length ≤ 1000000) :
    Calls Tryd.prog 37 #[.agg #[.string n, .string d]] w fun e w' => (∃ u1 u2, e = .returned (.tuple #[.agg #[u1, u2], .bool true]) ∧ NumV w' 1000000000 (bv n.data.toList) u1 ∧ NumV w' 1000000000 (bv d.data.toList) u2) ∧ Below w.heap.size w w' := by
  refine read_ok n d w _ _ (Nat.gcd (bv n.data.toList) (bv d.data.toList)) (fun W => terms_ok n d W _ _ (fun V => by have := isNumber_any n V (by omega); rw [a1] at this; exact this) (fun V => by have := isNumber_any d V (by omega); rw [a2] at this; exact this) (toList_no d [48] (fun h => h0 (by rw [h]; exact T_bv 0))) (fun V => numberOf_any n V (isNum_all a1) h1) (fun V => numberOf_any d V (isNum_all a2) h2)) (fun W v v' g1 g2 => gcdV g1 g2 b1 b2) (fun W v hv => ?_)
  rw [hg] at hv
  have := isOneV hv (by rw [dg_pos bigBase (by omega)]; simp [dg_zero])
  exact this
theorem read_bad (n d : ByteArray) (w : World) (a1 : isNum n.data.toList = true) (a2 : isNum d.data.toList = true) (h1 : n.size ≤ 1000000) (h2 : d.size ≤ 1000000) (h0 : bv d.data.toList = 0 ∨ Nat.gcd (bv n.data.toList) (bv d.data.toList) ≠ 1) (b1 : (dg 1000000000 (bv n.data.toList)).length ≤ 1000000) (b2 : (dg 1000000000 (bv d.data.toList)).length ≤ 1000000) :
    Calls Tryd.prog 37 #[.agg #[.string n, .string d]] w fun e w' => e = .returned (.tuple #[.agg #[.slice none 0 0, .slice none 0 0], .bool false]) ∧ Below w.heap.size w w' := by
  by_cases hz : bv d.data.toList = 0
  · have hd0 : d = ⟨#[48]⟩ := by rw [zeroT, ← hz]; exact T_of d a2
    exact read_zero n d w (fun W => terms_zero n d W (fun V => by have := isNumber_any n V (by omega); rw [a1] at this; exact this) (fun V => by have := isNumber_any d V (by omega); rw [a2] at this; exact this) (toList_yes d [48] hd0))
  · have hg := h0.resolve_left hz
    refine read_more n d w _ _ (Nat.gcd (bv n.data.toList) (bv d.data.toList)) (fun W => terms_ok n d W _ _ (fun V => by have := isNumber_any n V (by omega); rw [a1] at this; exact this) (fun V => by have := isNumber_any d V (by omega); rw [a2] at this; exact this) (toList_no d [48] (fun h => hz (by rw [h]; exact T_bv 0))) (fun V => numberOf_any n V (isNum_all a1) h1) (fun V => numberOf_any d V (isNum_all a2) h2)) (fun W v v' g1 g2 => gcdV g1 g2 b1 b2) (fun W v hv => ?_)
    have := isOneV hv (Nat.le_trans (dg_len_mono bigBase (Nat.gcd_le_right _ (Nat.pos_of_ne_zero hz))) b2)
    rw [beq_eq_false_iff_ne.2 hg] at this
    exact this
end Go.Proofs.YtflabehlaiocaaaDoor
