/- The reference's Extract and ExtractAny: an unknown kind, and lists that do not go together. -/
import Derived.Test.YtokkjdelomkfiaaSm5
set_option linter.unusedSimpArgs false
set_option linter.unusedVariables false
set_option maxRecDepth 100000
namespace Go.Proofs.Ytokkjdelomkfiaa
open Go.RowKit Go.Deep Go.PlainAid

set_option maxHeartbeats 2000000 in
theorem ref7_none {w : World} {z : Int} (z1 : z ≠ 1) (z2 : z ≠ 2) (z3 : z ≠ 3) {a b : Option Addr} {x y : ByteArray} {l m c d : Nat} :
    Calls Try.prog 7 #[.int .i64 z, .agg #[.string x, .slice a l c], .agg #[.string y, .slice b m d]] w fun e w' => e = .returned (.tuple #[.slice none 0 0, .int .i64 1]) ∧ Below w.heap.size w w' := by
  have q1 : Hid ((z == 1) = false) := beq_eq_false_iff_ne.2 z1
  have q1' : Hid ((z != 1) = true) := bne_iff_ne.2 z1
  have q2 : Hid ((z == 2) = false) := beq_eq_false_iff_ne.2 z2
  have q3 : Hid ((z == 3) = false) := beq_eq_false_iff_ne.2 z3
  clear z1 z2 z3
  generalize hW : (w.alloc (.cells #[.string x, .slice a l c] 24)).alloc (.cells #[.string y, .slice b m d] 24) = W
  have J : Hid (Below w.heap.size w W) := by rw [← hW]; exact ((Below.refl _ w).alloc (Nat.le_refl _) _).alloc (by simp) _
  have I1 : Hid (IHolds W w.heap.size 24 [.string x, .slice a l c]) := by rw [← hW]; exact (IHolds.new' w 24 [.string x, .slice a l c] rfl).alloc _
  have I2 : Hid (IHolds W (w.heap.size + 1) 24 [.string y, .slice b m d]) := by rw [← hW]; exact IHolds.new' (w.alloc _) 24 [.string y, .slice b m d] (by simp)
  go_enter Try.func7, Try.ntmps7
  go_wp2_with fail
  clear hW
  refine (kind0 _ z q1.out q1'.out q2.out q3.out).mono ?_
  rintro e w1 ⟨rfl, hB1⟩
  have B1 : Hid (Below W.heap.size W (w1.alloc (.cells #[.int .i64 0, .slice none 0 0, .slice none 0 0] 54))) := hB1.trans ((nB _ _).mono hB1.size)
  clear I1 I2 hB1
  go_wp2_with fail
  exact bodyPost_ret (v := .tuple #[.slice none 0 0, .int .i64 1]) (by simp [results, Try.results7, go_sem]) rfl ⟨rfl, J.out.trans (B1.out.mono J.out.size)⟩
set_option maxHeartbeats 2000000 in
theorem ref10_none {w : World} {z : Int} (z1 : z ≠ 1) (z2 : z ≠ 2) (z3 : z ≠ 3) {a1 a2 b1 b2 : Option Addr} {n1 n2 m1 m2 c1 c2 d1 d2 : Nat} :
    Calls Try.prog 10 #[.int .i64 z, .agg #[.slice a1 n1 c1, .slice a2 n2 c2], .agg #[.slice b1 m1 d1, .slice b2 m2 d2]] w fun e w' => e = .returned (.tuple #[.int .i64 0, .slice none 0 0, .int .i64 1]) ∧ Below w.heap.size w w' := by
  have q1 : Hid ((z == 1) = false) := beq_eq_false_iff_ne.2 z1
  have q1' : Hid ((z != 1) = true) := bne_iff_ne.2 z1
  have q2 : Hid ((z == 2) = false) := beq_eq_false_iff_ne.2 z2
  have q3 : Hid ((z == 3) = false) := beq_eq_false_iff_ne.2 z3
  clear z1 z2 z3
  generalize hW : (w.alloc (.cells #[.slice a1 n1 c1, .slice a2 n2 c2] 27)).alloc (.cells #[.slice b1 m1 d1, .slice b2 m2 d2] 27) = W
  have J : Hid (Below w.heap.size w W) := by rw [← hW]; exact ((Below.refl _ w).alloc (Nat.le_refl _) _).alloc (by simp) _
  have I1 : Hid (IHolds W w.heap.size 27 [.slice a1 n1 c1, .slice a2 n2 c2]) := by rw [← hW]; exact (IHolds.new' w 27 [.slice a1 n1 c1, .slice a2 n2 c2] rfl).alloc _
  have I2 : Hid (IHolds W (w.heap.size + 1) 27 [.slice b1 m1 d1, .slice b2 m2 d2]) := by rw [← hW]; exact IHolds.new' (w.alloc _) 27 [.slice b1 m1 d1, .slice b2 m2 d2] (by simp)
  go_enter Try.func10, Try.ntmps10
  go_wp2_with fail
  clear hW
  refine (kind0 _ z q1.out q1'.out q2.out q3.out).mono ?_
  rintro e w1 ⟨rfl, hB1⟩
  have B1 : Hid (Below W.heap.size W (w1.alloc (.cells #[.int .i64 0, .slice none 0 0, .slice none 0 0] 54))) := hB1.trans ((nB _ _).mono hB1.size)
  clear I1 I2 hB1
  go_wp2_with fail
  exact bodyPost_ret (v := .tuple #[.int .i64 0, .slice none 0 0, .int .i64 1]) (by simp [results, Try.results10, go_sem]) rfl ⟨rfl, J.out.trans (B1.out.mono J.out.size)⟩
section
variable {z : Int} {G : Array Value} {S Wd M low one sq Ri Wd2 M2 low2 one2 sq2 Ri2 : Nat}
set_option maxHeartbeats 2000000 in
theorem ref10_form (k : KD z G S Wd M low one sq Ri Wd2 M2 low2 one2 sq2 Ri2) {w : World} {a1 a2 b1 b2 : Option Addr} {n1 n2 m1 m2 c1 c2 d1 d2 : Nat} (h : n1 = 0 ∨ m1 ≠ n1 ∨ n2 ≠ n1 ∨ m2 ≠ n1) :
    Calls Try.prog 10 #[.int .i64 z, .agg #[.slice a1 n1 c1, .slice a2 n2 c2], .agg #[.slice b1 m1 d1, .slice b2 m2 d2]] w fun e w' => e = .returned (.tuple #[.int .i64 0, .slice none 0 0, .int .i64 2]) ∧ Below w.heap.size w w' := by
  generalize hW : (w.alloc (.cells #[.slice a1 n1 c1, .slice a2 n2 c2] 27)).alloc (.cells #[.slice b1 m1 d1, .slice b2 m2 d2] 27) = W
  have J : Hid (Below w.heap.size w W) := by rw [← hW]; exact ((Below.refl _ w).alloc (Nat.le_refl _) _).alloc (by simp) _
  have I1 : Hid (IHolds W w.heap.size 27 [.slice a1 n1 c1, .slice a2 n2 c2]) := by rw [← hW]; exact (IHolds.new' w 27 [.slice a1 n1 c1, .slice a2 n2 c2] rfl).alloc _
  have I2 : Hid (IHolds W (w.heap.size + 1) 27 [.slice b1 m1 d1, .slice b2 m2 d2]) := by rw [← hW]; exact IHolds.new' (w.alloc _) 27 [.slice b1 m1 d1, .slice b2 m2 d2] (by simp)
  go_enter Try.func10, Try.ntmps10
  go_wp2_with fail
  clear hW
  refine (k.K9 _).mono ?_
  rintro e w1 ⟨⟨u1, u2, rfl, n1', n2'⟩, hB1⟩
  obtain ⟨qa, ql, qc, rfl⟩ := sN (show Hid (NumV w1 65536 M u1) from n1')
  obtain ⟨pa, pl, pc, rfl⟩ := sN (show Hid (NumV w1 65536 M2 u2) from n2')
  clear n1' n2'
  obtain ⟨U, hU⟩ : ∃ U, w1.alloc (.cells #[.int .i64 (S : Int), .slice qa ql qc, .slice pa pl pc] 54) = U := ⟨_, rfl⟩
  have B1 : Hid (Below W.heap.size W U) := by rw [← hU]; exact hB1.trans ((nB _ _).mono hB1.size)
  have y0 : U.cell? ⟨w1.heap.size, 0, none⟩ = some (.int .i64 (S : Int)) := by rw [← hU]; exact (IHolds.new' w1 54 [.int .i64 (S : Int), .slice qa ql qc, .slice pa pl pc] rfl).cell 0 (by simp)
  have y1 := (I1.out.of_below B1.out).two0
  have y2 := (I1.out.of_below B1.out).two1
  have y3 := (I2.out.of_below B1.out).two0
  have y4 := (I2.out.of_below B1.out).two1
  have hS0 := k.hS0
  clear I1 I2 hB1
  by_cases g1 : n1 = 0
  · subst g1
    clear h
    go_wp2_with fail
    exact bodyPost_ret (v := .tuple #[.int .i64 0, .slice none 0 0, .int .i64 2]) (by simp [results, Try.results10, go_sem]) rfl ⟨rfl, J.out.trans (B1.out.mono J.out.size)⟩
  · have k1 : ((n1 : Int) == 0) = false := by simp; omega
    by_cases g2 : m1 = n1
    · subst g2
      by_cases g3 : n2 = m1
      · subst g3
        have k4 : ((m2 : Int) != (n2 : Int)) = true := by simp [bne]; omega
        clear h
        go_wp2_with fail
        exact bodyPost_ret (v := .tuple #[.int .i64 0, .slice none 0 0, .int .i64 2]) (by simp [results, Try.results10, go_sem]) rfl ⟨rfl, J.out.trans (B1.out.mono J.out.size)⟩
      · have k3 : ((n2 : Int) != (m1 : Int)) = true := by simp [bne]; omega
        clear h
        go_wp2_with fail
        exact bodyPost_ret (v := .tuple #[.int .i64 0, .slice none 0 0, .int .i64 2]) (by simp [results, Try.results10, go_sem]) rfl ⟨rfl, J.out.trans (B1.out.mono J.out.size)⟩
    · have k2 : ((m1 : Int) != (n1 : Int)) = true := by simp [bne]; omega
      clear h
      go_wp2_with fail
      exact bodyPost_ret (v := .tuple #[.int .i64 0, .slice none 0 0, .int .i64 2]) (by simp [results, Try.results10, go_sem]) rfl ⟨rfl, J.out.trans (B1.out.mono J.out.size)⟩
end
end Go.Proofs.Ytokkjdelomkfiaa
