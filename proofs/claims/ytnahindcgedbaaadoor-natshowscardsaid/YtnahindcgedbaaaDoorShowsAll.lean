/- The walk of NatShows, whole. -/
import Derived.Test.YtnahindcgedbaaaDoorShowsWalkA
import Derived.Test.YtnahindcgedbaaaDoorShowsWalkB
import Derived.Test.YtnahindcgedbaaaDoorShowsWalkC
set_option linter.unusedSimpArgs false
set_option linter.unusedVariables false
namespace Go.Proofs.YtnahindcgedbaaaDoor
open Go.RowKit Go.Deep Go.PlainAid

theorem wr2_zero {a b : ByteArray} (h : wr2 a b = 0) : wrT a = 0 ∧ wrT b = 0 := by
  unfold wr2 at h
  split at h
  · rename_i h1; exact ⟨h1, h⟩
  · rename_i h1; exact absurd h h1
theorem natShows_bad {a b n d : ByteArray} {z : Int} {w : World} (h : wr2 a b ≠ 0) (s1 : a.size ≤ 4611686018427387904) (s2 : b.size ≤ 4611686018427387904) (s3 : n.size ≤ 4611686018427387904) (s4 : d.size ≤ 4611686018427387904) :
    Calls Tryd.prog 6 #[.string a, .string b, .agg #[.string n, .string d], .int .i64 z] w fun e w' => e = .returned (.bool true) ∧ Below w.heap.size w w' := by
  have F26 : ∀ W, Calls Tryd.prog 26 #[.int .i64 0] W fun e w' => (∃ u1 u2, e = .returned (.agg #[u1, u2]) ∧ NumV w' 10 0 u1 ∧ NumV w' 10 1 u2) ∧ Below W.heap.size W w' := fun W => refWhole_any W 0 (by omega)
  have F9 := fun W => lawWrong_any a b W s1 s2
  have F39 := fun W => low_bad (w := W) h s1 s2
  have TT : ∀ W p1 p2, Calls Tryd.prog 29 #[.agg #[.string ⟨#[]⟩, .string ⟨#[]⟩], .int .i64 (wr2 a b : Int), .int .i64 (wr2 a b : Int), .agg #[p1, p2]] W fun e w' => e = .returned (.bool true) ∧ Below W.heap.size W w' := fun W p1 p2 => told_bad _ (bne_iff_ne.2 (by omega))
  have hx1 : ((wr2 a b : Int) == 0) = false := beq_eq_false_iff_ne.2 (by omega)
  by_cases hx : wrF n d = 0
  · have F25 : ∀ W, Calls Tryd.prog 25 #[.string n, .string d] W fun e w' => e = .returned (.int .i64 0) ∧ Below W.heap.size W w' := fun W => by
      have := wrongFrac_any n d W s3 s4; rw [hx] at this; exact this
    obtain ⟨k1, k2, k3, k4⟩ := wrF_zero hx
    obtain ⟨i1, t1⟩ := wrT_zero k1
    obtain ⟨i2, t2⟩ := wrT_zero k2
    have l1 := dg_len_bv10 n k1
    have l2 := dg_len_bv10 d k2
    have F27 : ∀ W, Calls Tryd.prog 27 #[.agg #[.string n, .string d]] W fun e w' => (∃ u1 u2, e = .returned (.agg #[u1, u2]) ∧ NumV w' 10 (bv n.data.toList) u1 ∧ NumV w' 10 (bv d.data.toList) u2) ∧ Below W.heap.size W w' := fun W => lawRead_any n d _ _ W (fun W => refRead_any n W (isNum_all i1) (by omega)) (fun W => refRead_any d W (isNum_all i2) (by omega))
    have F43 : ∀ (p : Nat), p ≤ 100 → ∀ W p1 p2, NumV W 10 (bv n.data.toList) p1 → NumV W 10 (bv d.data.toList) p2 → Calls Tryd.prog 43 #[.agg #[p1, p2], .int .i64 (p : Int)] W fun e w' => e = .returned (.string ⟨(showT p (bv n.data.toList) (bv d.data.toList)).toArray⟩) ∧ Below W.heap.size W w' := fun p hp W p1 p2 g1 g2 => refShowV g1 g2 k3 (by omega) (by omega) hp
    by_cases hz : z < 0 ∨ 100 < z
    · exact shows_bad_range (f1 := ⟨(showT 0 (bv n.data.toList) (bv d.data.toList)).toArray⟩) (g1 := ⟨#[]⟩) (A := 0) (B1 := 0) (NL := 0) (DL := 0) (S1 := ⟨#[]⟩) (S2 := ⟨#[]⟩) _ hx1 F9 F39 F26 TT F25 (fun W => floor_ok hx) (fun W => show_range hx hz) F27 (F43 0 (by omega)) (fun W => lawText_ok _ W) (by omega) (fun W => lawText_bad 4 _ W (by omega))
    · obtain ⟨p, rfl⟩ : ∃ p : Nat, z = (p : Int) := ⟨z.toNat, by omega⟩
      exact shows_bad_ok (f1 := ⟨(showT 0 (bv n.data.toList) (bv d.data.toList)).toArray⟩) (g1 := ⟨(showT p (bv n.data.toList) (bv d.data.toList)).toArray⟩) (A := 0) (B1 := 0) (NL := 0) (DL := 0) (S1 := ⟨#[]⟩) (S2 := ⟨#[]⟩) _ hx1 F9 F39 F26 TT F25 (fun W => floor_ok hx) (fun W => show_ok hx (by omega)) F27 (F43 0 (by omega)) (fun W => lawText_ok _ W) (by omega) (by omega) (F43 p (by omega)) (fun W => lawText_ok _ W)
  · exact shows_bad_bad (f1 := ⟨#[]⟩) (g1 := ⟨#[]⟩) (NN := 0) (DD := 0) (A := 0) (B1 := 0) (NL := 0) (DL := 0) (S1 := ⟨#[]⟩) (S2 := ⟨#[]⟩) _ hx1 F9 F39 F26 TT _ (bne_iff_ne.2 (show ((wrF n d : Nat) : Int) ≠ 0 by omega)) (fun W => wrongFrac_any n d W s3 s4) (fun W => floor_bad hx s3 s4) (fun W => show_bad hx s3 s4) (fun W => lawText_bad _ _ W (by omega))
theorem natShows_zero {a b n d : ByteArray} {z : Int} {w : World} (ha : wrT a = 0) (hb : wrT b = 0) (h0 : bv b.data.toList = 0) (s1 : a.size ≤ 4611686018427387904) (s2 : b.size ≤ 4611686018427387904) (s3 : n.size ≤ 4611686018427387904) (s4 : d.size ≤ 4611686018427387904) :
    Calls Tryd.prog 6 #[.string a, .string b, .agg #[.string n, .string d], .int .i64 z] w fun e w' => e = .returned (.bool true) ∧ Below w.heap.size w w' := by
  have F26 : ∀ W, Calls Tryd.prog 26 #[.int .i64 0] W fun e w' => (∃ u1 u2, e = .returned (.agg #[u1, u2]) ∧ NumV w' 10 0 u1 ∧ NumV w' 10 1 u2) ∧ Below W.heap.size W w' := fun W => refWhole_any W 0 (by omega)
  have e2 : wr2 a b = 0 := by unfold wr2; rw [if_pos ha, hb]
  have F9 : ∀ W, Calls Tryd.prog 9 #[.string a, .string b] W fun e w' => e = .returned (.int .i64 0) ∧ w' = W := fun W => by
    have := lawWrong_any a b W s1 s2; rw [e2] at this; exact this
  have F39 := fun W => low_zero (w := W) ha hb h0
  have TT : ∀ W p1 p2, Calls Tryd.prog 29 #[.agg #[.string ⟨#[]⟩, .string ⟨#[]⟩], .int .i64 5, .int .i64 5, .agg #[p1, p2]] W fun e w' => e = .returned (.bool true) ∧ Below W.heap.size W w' := fun W p1 p2 => told_bad 5 rfl
  have hbb : (b.toList == [48]) = true := toList_yes b [48] (by
    have e := T_of b (wrT_zero hb).1
    rw [h0] at e
    exact e.trans zeroT.symm)
  by_cases hx : wrF n d = 0
  · have F25 : ∀ W, Calls Tryd.prog 25 #[.string n, .string d] W fun e w' => e = .returned (.int .i64 0) ∧ Below W.heap.size W w' := fun W => by
      have := wrongFrac_any n d W s3 s4; rw [hx] at this; exact this
    obtain ⟨k1, k2, k3, k4⟩ := wrF_zero hx
    obtain ⟨i1, t1⟩ := wrT_zero k1
    obtain ⟨i2, t2⟩ := wrT_zero k2
    have l1 := dg_len_bv10 n k1
    have l2 := dg_len_bv10 d k2
    have F27 : ∀ W, Calls Tryd.prog 27 #[.agg #[.string n, .string d]] W fun e w' => (∃ u1 u2, e = .returned (.agg #[u1, u2]) ∧ NumV w' 10 (bv n.data.toList) u1 ∧ NumV w' 10 (bv d.data.toList) u2) ∧ Below W.heap.size W w' := fun W => lawRead_any n d _ _ W (fun W => refRead_any n W (isNum_all i1) (by omega)) (fun W => refRead_any d W (isNum_all i2) (by omega))
    have F43 : ∀ (p : Nat), p ≤ 100 → ∀ W p1 p2, NumV W 10 (bv n.data.toList) p1 → NumV W 10 (bv d.data.toList) p2 → Calls Tryd.prog 43 #[.agg #[p1, p2], .int .i64 (p : Int)] W fun e w' => e = .returned (.string ⟨(showT p (bv n.data.toList) (bv d.data.toList)).toArray⟩) ∧ Below W.heap.size W w' := fun p hp W p1 p2 g1 g2 => refShowV g1 g2 k3 (by omega) (by omega) hp
    by_cases hz : z < 0 ∨ 100 < z
    · exact shows_zero_range (f1 := ⟨(showT 0 (bv n.data.toList) (bv d.data.toList)).toArray⟩) (g1 := ⟨#[]⟩) (A := 0) (B1 := 0) (NL := 0) (DL := 0) (S1 := ⟨#[]⟩) (S2 := ⟨#[]⟩) hbb F9 F39 F26 TT F25 (fun W => floor_ok hx) (fun W => show_range hx hz) F27 (F43 0 (by omega)) (fun W => lawText_ok _ W) (by omega) (fun W => lawText_bad 4 _ W (by omega))
    · obtain ⟨p, rfl⟩ : ∃ p : Nat, z = (p : Int) := ⟨z.toNat, by omega⟩
      exact shows_zero_ok (f1 := ⟨(showT 0 (bv n.data.toList) (bv d.data.toList)).toArray⟩) (g1 := ⟨(showT p (bv n.data.toList) (bv d.data.toList)).toArray⟩) (A := 0) (B1 := 0) (NL := 0) (DL := 0) (S1 := ⟨#[]⟩) (S2 := ⟨#[]⟩) hbb F9 F39 F26 TT F25 (fun W => floor_ok hx) (fun W => show_ok hx (by omega)) F27 (F43 0 (by omega)) (fun W => lawText_ok _ W) (by omega) (by omega) (F43 p (by omega)) (fun W => lawText_ok _ W)
  · exact shows_zero_bad (f1 := ⟨#[]⟩) (g1 := ⟨#[]⟩) (NN := 0) (DD := 0) (A := 0) (B1 := 0) (NL := 0) (DL := 0) (S1 := ⟨#[]⟩) (S2 := ⟨#[]⟩) hbb F9 F39 F26 TT _ (bne_iff_ne.2 (show ((wrF n d : Nat) : Int) ≠ 0 by omega)) (fun W => wrongFrac_any n d W s3 s4) (fun W => floor_bad hx s3 s4) (fun W => show_bad hx s3 s4) (fun W => lawText_bad _ _ W (by omega))
theorem natShows_ok {a b n d : ByteArray} {z : Int} {w : World} (ha : wrT a = 0) (hb : wrT b = 0) (h0 : bv b.data.toList ≠ 0) (s1 : a.size ≤ 4611686018427387904) (s2 : b.size ≤ 4611686018427387904) (s3 : n.size ≤ 4611686018427387904) (s4 : d.size ≤ 4611686018427387904) :
    Calls Tryd.prog 6 #[.string a, .string b, .agg #[.string n, .string d], .int .i64 z] w fun e w' => e = .returned (.bool true) ∧ Below w.heap.size w w' := by
  have F26 : ∀ W, Calls Tryd.prog 26 #[.int .i64 0] W fun e w' => (∃ u1 u2, e = .returned (.agg #[u1, u2]) ∧ NumV w' 10 0 u1 ∧ NumV w' 10 1 u2) ∧ Below W.heap.size W w' := fun W => refWhole_any W 0 (by omega)
  have e2 : wr2 a b = 0 := by unfold wr2; rw [if_pos ha, hb]
  have F9 : ∀ W, Calls Tryd.prog 9 #[.string a, .string b] W fun e w' => e = .returned (.int .i64 0) ∧ w' = W := fun W => by
    have := lawWrong_any a b W s1 s2; rw [e2] at this; exact this
  have F39 := fun W => low_ok (w := W) ha hb h0
  obtain ⟨j1, o1⟩ := wrT_zero ha
  obtain ⟨j2, o2⟩ := wrT_zero hb
  have m1 := dg_len_bv10 a ha
  have m2 := dg_len_bv10 b hb
  have hbb : (b.toList == [48]) = false := toList_no b [48] (fun h => h0 (by rw [h]; exact T_bv 0))
  have F10a := fun W => refRead_any a W (isNum_all j1) (by omega)
  have F10b := fun W => refRead_any b W (isNum_all j2) (by omega)
  have F40 := fun W v v' (g1 : NumV W 10 (bv a.data.toList) v) (g2 : NumV W 10 (bv b.data.toList) v') => refLowestV g1 g2 h0 (by omega) (by omega)
  have TT := fun W p1 p2 h1 h2 => toldV (w := W) (p1 := p1) (p2 := p2) (bv a.data.toList / Nat.gcd (bv a.data.toList) (bv b.data.toList)) (bv b.data.toList / Nat.gcd (bv a.data.toList) (bv b.data.toList)) h1 h2 (Nat.le_trans (dg_len_mono ten (Nat.div_le_self _ _)) (by omega)) (Nat.le_trans (dg_len_mono ten (Nat.div_le_self _ _)) (by omega))
  by_cases hx : wrF n d = 0
  · have F25 : ∀ W, Calls Tryd.prog 25 #[.string n, .string d] W fun e w' => e = .returned (.int .i64 0) ∧ Below W.heap.size W w' := fun W => by
      have := wrongFrac_any n d W s3 s4; rw [hx] at this; exact this
    obtain ⟨k1, k2, k3, k4⟩ := wrF_zero hx
    obtain ⟨i1, t1⟩ := wrT_zero k1
    obtain ⟨i2, t2⟩ := wrT_zero k2
    have l1 := dg_len_bv10 n k1
    have l2 := dg_len_bv10 d k2
    have F27 : ∀ W, Calls Tryd.prog 27 #[.agg #[.string n, .string d]] W fun e w' => (∃ u1 u2, e = .returned (.agg #[u1, u2]) ∧ NumV w' 10 (bv n.data.toList) u1 ∧ NumV w' 10 (bv d.data.toList) u2) ∧ Below W.heap.size W w' := fun W => lawRead_any n d _ _ W (fun W => refRead_any n W (isNum_all i1) (by omega)) (fun W => refRead_any d W (isNum_all i2) (by omega))
    have F43 : ∀ (p : Nat), p ≤ 100 → ∀ W p1 p2, NumV W 10 (bv n.data.toList) p1 → NumV W 10 (bv d.data.toList) p2 → Calls Tryd.prog 43 #[.agg #[p1, p2], .int .i64 (p : Int)] W fun e w' => e = .returned (.string ⟨(showT p (bv n.data.toList) (bv d.data.toList)).toArray⟩) ∧ Below W.heap.size W w' := fun p hp W p1 p2 g1 g2 => refShowV g1 g2 k3 (by omega) (by omega) hp
    by_cases hz : z < 0 ∨ 100 < z
    · exact shows_ok_range (f1 := ⟨(showT 0 (bv n.data.toList) (bv d.data.toList)).toArray⟩) (g1 := ⟨#[]⟩) hbb F9 F39 F26 F10a F10b F40 TT F25 (fun W => floor_ok hx) (fun W => show_range hx hz) F27 (F43 0 (by omega)) (fun W => lawText_ok _ W) (by omega) (fun W => lawText_bad 4 _ W (by omega))
    · obtain ⟨p, rfl⟩ : ∃ p : Nat, z = (p : Int) := ⟨z.toNat, by omega⟩
      exact shows_ok_ok (f1 := ⟨(showT 0 (bv n.data.toList) (bv d.data.toList)).toArray⟩) (g1 := ⟨(showT p (bv n.data.toList) (bv d.data.toList)).toArray⟩) hbb F9 F39 F26 F10a F10b F40 TT F25 (fun W => floor_ok hx) (fun W => show_ok hx (by omega)) F27 (F43 0 (by omega)) (fun W => lawText_ok _ W) (by omega) (by omega) (F43 p (by omega)) (fun W => lawText_ok _ W)
  · exact shows_ok_bad (f1 := ⟨#[]⟩) (g1 := ⟨#[]⟩) (NN := 0) (DD := 0) hbb F9 F39 F26 F10a F10b F40 TT _ (bne_iff_ne.2 (show ((wrF n d : Nat) : Int) ≠ 0 by omega)) (fun W => wrongFrac_any n d W s3 s4) (fun W => floor_bad hx s3 s4) (fun W => show_bad hx s3 s4) (fun W => lawText_bad _ _ W (by omega))
theorem natShows_walk (a b n d : ByteArray) (z : Int) (w : World) (s1 : a.size ≤ 4611686018427387904) (s2 : b.size ≤ 4611686018427387904) (s3 : n.size ≤ 4611686018427387904) (s4 : d.size ≤ 4611686018427387904) :
    Calls Tryd.prog 6 #[.string a, .string b, .agg #[.string n, .string d], .int .i64 z] w fun e w' => e = .returned (.bool true) ∧ Below w.heap.size w w' := by
  by_cases h : wr2 a b = 0
  · obtain ⟨h1, h2⟩ := wr2_zero h
    by_cases h0 : bv b.data.toList = 0
    · exact natShows_zero h1 h2 h0 s1 s2 s3 s4
    · exact natShows_ok h1 h2 h0 s1 s2 s3 s4
  · exact natShows_bad h s1 s2 s3 s4
end Go.Proofs.YtnahindcgedbaaaDoor
