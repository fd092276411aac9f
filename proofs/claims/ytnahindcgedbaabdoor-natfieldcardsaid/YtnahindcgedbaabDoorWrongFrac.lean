/- What is wrong with two texts that are handed in as a fraction. -/
import Derived.Test.YtnahindcgedbaabDoorBaseE
import Derived.Test.YtnahindcgedbaabDoorEuclidWalk
set_option linter.unusedSimpArgs false
set_option linter.unusedVariables false
namespace Go.Proofs.YtnahindcgedbaabDoor
open Go.RowKit Go.Deep Go.PlainAid

/-- What is wrong with two texts as a fraction: 2 where one is no number, or they are not in lowest terms, 3 where one is too long. -/
def wrF (n d : ByteArray) : Nat :=
  if isNum n.data.toList = false ∨ isNum d.data.toList = false then 2
  else if 4000 < n.size ∨ 4000 < d.size then 3
  else if bv d.data.toList = 0 ∨ Nat.gcd (bv n.data.toList) (bv d.data.toList) ≠ 1 then 2 else 0
theorem wrF_zero {n d : ByteArray} (h : wrF n d = 0) : wrT n = 0 ∧ wrT d = 0 ∧ bv d.data.toList ≠ 0 ∧ Nat.gcd (bv n.data.toList) (bv d.data.toList) = 1 := by
  unfold wrF at h
  split at h
  · omega
  · split at h
    · omega
    · split at h
      · omega
      · rename_i h1 h2 h3
        have e1 : isNum n.data.toList = true := by cases hq : isNum n.data.toList with | true => rfl | false => exact absurd (Or.inl hq) h1
        have e2 : isNum d.data.toList = true := by cases hq : isNum d.data.toList with | true => rfl | false => exact absurd (Or.inr hq) h1
        refine ⟨wrT_ok e1 (by omega), wrT_ok e2 (by omega), fun h => h3 (Or.inl h), ?_⟩
        by_cases hg : Nat.gcd (bv n.data.toList) (bv d.data.toList) = 1
        · exact hg
        · exact absurd (Or.inr hg) h3

set_option maxRecDepth 100000 in
set_option maxHeartbeats 1000000 in
theorem wrongFrac_n (n d : ByteArray) (w : World) (In : Hid (∀ W, Calls Tryd.prog 24 #[.string n] W fun e w' => e = .returned (.bool false) ∧ w' = W))  :
    Calls Tryd.prog 10 #[.string n, .string d] w fun e w' => e = .returned (.int .i64 2) ∧ Below w.heap.size w w' := by
  go_enter Tryd.func10, Tryd.ntmps10
  go_wp2_with fail
  refine (In.out w).mono ?_
  rintro e w1 ⟨rfl, rfl⟩
  go_wp2_with fail
  go_ret
  exact ⟨rfl, Below.refl _ _⟩

set_option maxRecDepth 100000 in
set_option maxHeartbeats 1000000 in
theorem wrongFrac_d (n d : ByteArray) (w : World) (In : Hid (∀ W, Calls Tryd.prog 24 #[.string n] W fun e w' => e = .returned (.bool true) ∧ w' = W)) (Id : Hid (∀ W, Calls Tryd.prog 24 #[.string d] W fun e w' => e = .returned (.bool false) ∧ w' = W))  :
    Calls Tryd.prog 10 #[.string n, .string d] w fun e w' => e = .returned (.int .i64 2) ∧ Below w.heap.size w w' := by
  go_enter Tryd.func10, Tryd.ntmps10
  go_wp2_with fail
  refine (In.out w).mono ?_
  rintro e w1 ⟨rfl, rfl⟩
  go_wp2_with fail
  refine (Id.out w1).mono ?_
  rintro e w1 ⟨rfl, rfl⟩
  go_wp2_with fail
  go_ret
  exact ⟨rfl, Below.refl _ _⟩

set_option maxRecDepth 100000 in
set_option maxHeartbeats 1000000 in
theorem wrongFrac_ln (n d : ByteArray) (w : World) (In : Hid (∀ W, Calls Tryd.prog 24 #[.string n] W fun e w' => e = .returned (.bool true) ∧ w' = W)) (Id : Hid (∀ W, Calls Tryd.prog 24 #[.string d] W fun e w' => e = .returned (.bool true) ∧ w' = W)) (h : (4000 : Int) < (n.size : Int)) :
    Calls Tryd.prog 10 #[.string n, .string d] w fun e w' => e = .returned (.int .i64 3) ∧ Below w.heap.size w w' := by
  go_enter Tryd.func10, Tryd.ntmps10
  go_wp2_with fail
  refine (In.out w).mono ?_
  rintro e w1 ⟨rfl, rfl⟩
  go_wp2_with fail
  refine (Id.out w1).mono ?_
  rintro e w1 ⟨rfl, rfl⟩
  go_wp2_with fail
  go_ret
  exact ⟨rfl, Below.refl _ _⟩

set_option maxRecDepth 100000 in
set_option maxHeartbeats 1000000 in
theorem wrongFrac_ld (n d : ByteArray) (w : World) (In : Hid (∀ W, Calls Tryd.prog 24 #[.string n] W fun e w' => e = .returned (.bool true) ∧ w' = W)) (Id : Hid (∀ W, Calls Tryd.prog 24 #[.string d] W fun e w' => e = .returned (.bool true) ∧ w' = W)) (h : ¬ (4000 : Int) < (n.size : Int)) (h2 : (4000 : Int) < (d.size : Int)) :
    Calls Tryd.prog 10 #[.string n, .string d] w fun e w' => e = .returned (.int .i64 3) ∧ Below w.heap.size w w' := by
  go_enter Tryd.func10, Tryd.ntmps10
  go_wp2_with fail
  refine (In.out w).mono ?_
  rintro e w1 ⟨rfl, rfl⟩
  go_wp2_with fail
  refine (Id.out w1).mono ?_
  rintro e w1 ⟨rfl, rfl⟩
  go_wp2_with fail
  go_ret
  exact ⟨rfl, Below.refl _ _⟩

set_option maxRecDepth 100000 in
set_option maxHeartbeats 1000000 in
theorem wrongFrac_z (n d : ByteArray) (w : World) (In : Hid (∀ W, Calls Tryd.prog 24 #[.string n] W fun e w' => e = .returned (.bool true) ∧ w' = W)) (Id : Hid (∀ W, Calls Tryd.prog 24 #[.string d] W fun e w' => e = .returned (.bool true) ∧ w' = W)) (h : ¬ (4000 : Int) < (n.size : Int)) (h2 : ¬ (4000 : Int) < (d.size : Int)) (h3 : (d.toList == [48]) = true) :
    Calls Tryd.prog 10 #[.string n, .string d] w fun e w' => e = .returned (.int .i64 2) ∧ Below w.heap.size w w' := by
  go_enter Tryd.func10, Tryd.ntmps10
  go_wp2_with fail
  refine (In.out w).mono ?_
  rintro e w1 ⟨rfl, rfl⟩
  go_wp2_with fail
  refine (Id.out w1).mono ?_
  rintro e w1 ⟨rfl, rfl⟩
  go_wp2_with fail
  go_ret
  exact ⟨rfl, Below.refl _ _⟩

set_option maxRecDepth 100000 in
set_option maxHeartbeats 1000000 in
theorem wrongFrac_one (n d : ByteArray) (w : World) (N D : Nat) (G : ByteArray) (In : Hid (∀ W, Calls Tryd.prog 24 #[.string n] W fun e w' => e = .returned (.bool true) ∧ w' = W)) (Id : Hid (∀ W, Calls Tryd.prog 24 #[.string d] W fun e w' => e = .returned (.bool true) ∧ w' = W)) (h : ¬ (4000 : Int) < (n.size : Int)) (h2 : ¬ (4000 : Int) < (d.size : Int)) (h3 : (d.toList == [48]) = false) (h4 : (G.toList == [49]) = true) (r1 : Hid (∀ W, Calls Tryd.prog 27 #[.string n] W fun e w' => (∃ v, e = .returned v ∧ NumV w' 10 N v) ∧ Below W.heap.size W w')) (r2 : Hid (∀ W, Calls Tryd.prog 27 #[.string d] W fun e w' => (∃ v, e = .returned v ∧ NumV w' 10 D v) ∧ Below W.heap.size W w')) (r3 : Hid (∀ W v1 v2, NumV W 10 N v1 → NumV W 10 D v2 → Calls Tryd.prog 26 #[v1, v2] W fun e w' => (∃ v, e = .returned v ∧ NumV w' 10 (Nat.gcd N D) v) ∧ Below W.heap.size W w')) (r4 : Hid (∀ W v, NumV W 10 (Nat.gcd N D) v → Calls Tryd.prog 25 #[v] W fun e w' => e = .returned (.string G) ∧ Below W.heap.size W w')) :
    Calls Tryd.prog 10 #[.string n, .string d] w fun e w' => e = .returned (.int .i64 0) ∧ Below w.heap.size w w' := by
  go_enter Tryd.func10, Tryd.ntmps10
  go_wp2_with fail
  refine (In.out w).mono ?_
  rintro e w1 ⟨rfl, rfl⟩
  go_wp2_with fail
  refine (Id.out w1).mono ?_
  rintro e w1 ⟨rfl, rfl⟩
  go_wp2_with fail
  refine (r1.out w1).mono ?_
  rintro e W2 ⟨⟨v1, rfl, hv⟩, hb⟩
  have N1 : Hid (NumV W2 10 N v1) := hv
  have B2 : Hid (Below w1.heap.size w1 W2) := hb
  clear hv hb
  go_wp2_with fail
  refine (r2.out W2).mono ?_
  rintro e W3 ⟨⟨v2, rfl, hv⟩, hb⟩
  have N1' : Hid (NumV W3 10 N v1) := N1.out.of_below hb
  have N2 : Hid (NumV W3 10 D v2) := hv
  have B3 : Hid (Below w1.heap.size w1 W3) := B2.out.trans (hb.mono B2.out.size)
  clear hv hb
  go_wp2_with fail
  refine (r3.out W3 v1 v2 N1'.out N2.out).mono ?_
  rintro e W4 ⟨⟨v3, rfl, hv⟩, hb⟩
  have N3 : Hid (NumV W4 10 (Nat.gcd N D) v3) := hv
  have B4 : Hid (Below w1.heap.size w1 W4) := B3.out.trans (hb.mono B3.out.size)
  clear hv hb
  go_wp2_with fail
  refine (r4.out W4 v3 N3.out).mono ?_
  rintro e W5 ⟨rfl, hb⟩
  have B5 : Hid (Below w1.heap.size w1 W5) := B4.out.trans (hb.mono B4.out.size)
  clear hb
  go_wp2_with fail
  go_ret
  exact ⟨rfl, B5.out⟩

set_option maxRecDepth 100000 in
set_option maxHeartbeats 1000000 in
theorem wrongFrac_more (n d : ByteArray) (w : World) (N D : Nat) (G : ByteArray) (In : Hid (∀ W, Calls Tryd.prog 24 #[.string n] W fun e w' => e = .returned (.bool true) ∧ w' = W)) (Id : Hid (∀ W, Calls Tryd.prog 24 #[.string d] W fun e w' => e = .returned (.bool true) ∧ w' = W)) (h : ¬ (4000 : Int) < (n.size : Int)) (h2 : ¬ (4000 : Int) < (d.size : Int)) (h3 : (d.toList == [48]) = false) (h4 : (G.toList == [49]) = false) (r1 : Hid (∀ W, Calls Tryd.prog 27 #[.string n] W fun e w' => (∃ v, e = .returned v ∧ NumV w' 10 N v) ∧ Below W.heap.size W w')) (r2 : Hid (∀ W, Calls Tryd.prog 27 #[.string d] W fun e w' => (∃ v, e = .returned v ∧ NumV w' 10 D v) ∧ Below W.heap.size W w')) (r3 : Hid (∀ W v1 v2, NumV W 10 N v1 → NumV W 10 D v2 → Calls Tryd.prog 26 #[v1, v2] W fun e w' => (∃ v, e = .returned v ∧ NumV w' 10 (Nat.gcd N D) v) ∧ Below W.heap.size W w')) (r4 : Hid (∀ W v, NumV W 10 (Nat.gcd N D) v → Calls Tryd.prog 25 #[v] W fun e w' => e = .returned (.string G) ∧ Below W.heap.size W w')) :
    Calls Tryd.prog 10 #[.string n, .string d] w fun e w' => e = .returned (.int .i64 2) ∧ Below w.heap.size w w' := by
  go_enter Tryd.func10, Tryd.ntmps10
  go_wp2_with fail
  refine (In.out w).mono ?_
  rintro e w1 ⟨rfl, rfl⟩
  go_wp2_with fail
  refine (Id.out w1).mono ?_
  rintro e w1 ⟨rfl, rfl⟩
  go_wp2_with fail
  refine (r1.out w1).mono ?_
  rintro e W2 ⟨⟨v1, rfl, hv⟩, hb⟩
  have N1 : Hid (NumV W2 10 N v1) := hv
  have B2 : Hid (Below w1.heap.size w1 W2) := hb
  clear hv hb
  go_wp2_with fail
  refine (r2.out W2).mono ?_
  rintro e W3 ⟨⟨v2, rfl, hv⟩, hb⟩
  have N1' : Hid (NumV W3 10 N v1) := N1.out.of_below hb
  have N2 : Hid (NumV W3 10 D v2) := hv
  have B3 : Hid (Below w1.heap.size w1 W3) := B2.out.trans (hb.mono B2.out.size)
  clear hv hb
  go_wp2_with fail
  refine (r3.out W3 v1 v2 N1'.out N2.out).mono ?_
  rintro e W4 ⟨⟨v3, rfl, hv⟩, hb⟩
  have N3 : Hid (NumV W4 10 (Nat.gcd N D) v3) := hv
  have B4 : Hid (Below w1.heap.size w1 W4) := B3.out.trans (hb.mono B3.out.size)
  clear hv hb
  go_wp2_with fail
  refine (r4.out W4 v3 N3.out).mono ?_
  rintro e W5 ⟨rfl, hb⟩
  have B5 : Hid (Below w1.heap.size w1 W5) := B4.out.trans (hb.mono B4.out.size)
  clear hb
  go_wp2_with fail
  go_ret
  exact ⟨rfl, B5.out⟩

theorem toList_yes (s : ByteArray) (l : List UInt8) (h : s = ⟨l.toArray⟩) : (s.toList == l) = true := by
  subst h; rw [ByteArray.toList_eq]; simp
theorem toList_no (s : ByteArray) (l : List UInt8) (h : s ≠ ⟨l.toArray⟩) : (s.toList == l) = false := by
  rw [beq_eq_false_iff_ne]
  intro e
  rw [ByteArray.toList_eq] at e
  exact h (list_inj (by rw [e]))
theorem wrongFrac_any (n d : ByteArray) (w : World) (hn : n.size ≤ 4611686018427387904) (hd : d.size ≤ 4611686018427387904) :
    Calls Tryd.prog 10 #[.string n, .string d] w fun e w' => e = .returned (.int .i64 (wrF n d : Int)) ∧ Below w.heap.size w w' := by
  have In := fun W => is_any n W hn
  have Id := fun W => is_any d W hd
  unfold wrF
  cases e1 : isNum n.data.toList with
  | false => rw [e1] at In; rw [if_pos (Or.inl rfl)]; exact wrongFrac_n n d w In
  | true =>
    rw [e1] at In
    cases e2 : isNum d.data.toList with
    | false => rw [e2] at Id; rw [if_pos (Or.inr rfl)]; exact wrongFrac_d n d w In Id
    | true =>
      rw [e2] at Id
      rw [if_neg (by simp)]
      by_cases h1 : 4000 < n.size
      · rw [if_pos (Or.inl h1)]; exact wrongFrac_ln n d w In Id (by omega)
      · by_cases h2 : 4000 < d.size
        · rw [if_pos (Or.inr h2)]; exact wrongFrac_ld n d w In Id (by omega) (by omega)
        · rw [if_neg (by omega)]
          by_cases h3 : bv d.data.toList = 0
          · rw [if_pos (Or.inl h3)]
            have hd0 : d = ⟨#[48]⟩ := by rw [zeroT, ← h3]; exact T_of d e2
            exact wrongFrac_z n d w In Id (by omega) (by omega) (toList_yes d [48] hd0)
          · have h3' : (d.toList == [48]) = false := toList_no d [48] (fun h => h3 (by rw [h]; exact T_bv 0))
            have ln := dg_len_bv10 n (wrT_ok e1 (by omega))
            have ld := dg_len_bv10 d (wrT_ok e2 (by omega))
            have lg : (dg 10 (Nat.gcd (bv n.data.toList) (bv d.data.toList))).length ≤ 4000 := Nat.le_trans (dg_len_mono ten (Nat.gcd_le_right _ (Nat.pos_of_ne_zero h3))) ld
            have r1 : Hid (∀ W, Calls Tryd.prog 27 #[.string n] W fun e w' => (∃ v, e = .returned v ∧ NumV w' 10 (bv n.data.toList) v) ∧ Below W.heap.size W w') := fun W => refRead_any n W (isNum_all e1) (by omega)
            have r2 : Hid (∀ W, Calls Tryd.prog 27 #[.string d] W fun e w' => (∃ v, e = .returned v ∧ NumV w' 10 (bv d.data.toList) v) ∧ Below W.heap.size W w') := fun W => refRead_any d W (isNum_all e2) (by omega)
            by_cases hg : Nat.gcd (bv n.data.toList) (bv d.data.toList) = 1
            · rw [if_neg (by omega)]
              exact wrongFrac_one n d w _ _ (T (Nat.gcd (bv n.data.toList) (bv d.data.toList))) In Id (by omega) (by omega) h3' (toList_yes _ [49] (by rw [hg]; exact oneT.symm)) r1 r2 (fun W v1 v2 g1 g2 => refGcdV g1 g2 (by omega) (by omega)) (fun W v g => refTextV g (by omega))
            · rw [if_pos (Or.inr hg)]
              exact wrongFrac_more n d w _ _ (T (Nat.gcd (bv n.data.toList) (bv d.data.toList))) In Id (by omega) (by omega) h3' (toList_no _ [49] (fun h => hg (T_inj (h.trans oneT)))) r1 r2 (fun W v1 v2 g1 g2 => refGcdV g1 g2 (by omega) (by omega)) (fun W v g => refTextV g (by omega))
end Go.Proofs.YtnahindcgedbaabDoor
