/- GroupElems, of every kind. -/
import Derived.Test.YtckfdpiohkggaaaElemV
import Derived.Test.YtckfdpiohkggaaaElwNo
import Derived.Test.YtckfdpiohkggaaaElwXx
import Derived.Test.YtckfdpiohkggaaaElwBx
import Derived.Test.YtckfdpiohkggaaaElwOk
set_option linter.unusedSimpArgs false
set_option linter.unusedVariables false
namespace Go.Proofs.Ytckfdpiohkggaaa
open Go.RowKit Go.Deep Go.PlainAid

theorem elems_kind {z : Int} {G : Array Value} {S Wd M low one sq Ri Wd2 M2 low2 one2 sq2 Ri2 : Nat} (k : KD z G S Wd M low one sq Ri Wd2 M2 low2 one2 sq2 Ri2) (hp : IsP M2) (w : World) (a b n : ByteArray) :
    Calls Try.prog 6 #[.int .i64 z, .string a, .string b, .string n] w fun e w' => e = .returned (.bool true) ∧ Below w.heap.size w w' := by
  have F21 := fun (s : ByteArray) (W : World) (u1 u2 : Value) (g1 : NumV W 65536 M u1) (g2 : NumV W 65536 M2 u2) => isScalarV (S := S) g1 g2 s k.hS k.l6
  have F22 := fun (s : ByteArray) (W : World) (u1 u2 : Value) (g1 : NumV W 65536 M u1) (g2 : NumV W 65536 M2 u2) => isElemV (S := S) g1 g2 s k.hS k.l6
  have F21x : ∀ t s, isSc S M s = t → ∀ (W : World) (u1 u2 : Value), NumV W 65536 M u1 → NumV W 65536 M2 u2 → Calls Try.prog 21 #[.agg #[.int .i64 (S : Int), u1, u2], .string s] W fun e w' => e = .returned (.bool t) ∧ Below W.heap.size W w' := fun t s h W u1 u2 g1 g2 => by have q := F21 s W u1 u2 g1 g2; rw [h] at q; exact q
  have F22x : ∀ t s, isEl S M s = t → ∀ (W : World) (u1 u2 : Value), NumV W 65536 M u1 → NumV W 65536 M2 u2 → Calls Try.prog 22 #[.agg #[.int .i64 (S : Int), u1, u2], .string s] W fun e w' => e = .returned (.bool t) ∧ Below W.heap.size W w' := fun t s h W u1 u2 g1 g2 => by have q := F22 s W u1 u2 g1 g2; rw [h] at q; exact q
  have T13 : ∀ (W : World) (s : ByteArray), Calls Try.prog 13 #[.string s, .int .i64 0, .int .i64 0, .string s] W fun e w' => e = .returned (.bool true) ∧ Below W.heap.size W w' := fun W s => lawText_ok s W
  have GT : ∀ (x : Nat), x < M2 → ∀ (W : World) (v : Value), NumV W 65536 (sgn M M2 x) v → Calls Try.prog 14 #[v, .int .i64 (S : Int)] W fun e w' => e = .returned (.string ⟨(beB S (sgn M M2 x)).toArray⟩) ∧ Below W.heap.size W w' := fun x hx W v h => refTextV (S := S) h (lenD (sgn_le k.m21 hx) k.l5) (by have := k.hS; omega)
  have GM := k.mod2
  cases ha : isEl S M a
  · exact elw_a (A := 0) (D := 0) (E := 0) (rT := 0) (rP := 0) (rU := 0) (TT := ⟨#[]⟩) (TP := ⟨#[]⟩) (TU := ⟨#[]⟩) k.hS0 k.K9 (F22x _ a ha) (fun W => times_nay k W ha) (fun W => power_nay k W ha) (fun W => under_face (onel_nay k W ha)) T13 (fun W => lawText_bad 7 _ W rfl)
  · have a9 := k.el ha
    have FU : ∀ W, Calls Try.prog 39 #[.int .i64 z, .string a] W fun e w' => e = .returned (.tuple #[.string ⟨(beB S (sgn M M2 (numS a ^ (M - 1) % M2))).toArray⟩, .int .i64 0]) ∧ Below W.heap.size W w' := fun W => by
      have q := under_yes k W ha
      rw [under_same hp k.m21 (isEl_pos ha) a9 (by have := k.m2; omega)] at q
      exact q
    have FUr := fun (W : World) (u1 u2 v : Value) (g1 : NumV W 65536 M u1) (g2 : NumV W 65536 M2 u2) (g3 : NumV W 65536 (numS a) v) => underV k g1 g2 g3 a9
    have GU := GT _ (GM (numS a ^ (M - 1)))
    cases hb : isEl S M b
    · cases hn : isSc S M n
      · exact elw_xx (D := 0) (E := 0) (rT := 0) (rP := 0) (TT := ⟨#[]⟩) (TP := ⟨#[]⟩) k.hS0 k.K9 (F22x _ a ha) (F22x _ b hb) (F21x _ n hn) (read_small (isEl_size ha) k.hS) (fun W => times_nay2 k W ha hb) (fun W => power_nay2 k W ha hn) FU FUr GU T13 (fun W => lawText_bad 6 _ W rfl) (fun W => lawText_bad 7 _ W rfl)
      · exact elw_xn (D := 0) (rT := 0) (TT := ⟨#[]⟩) k.hS0 k.K9 (F22x _ a ha) (F22x _ b hb) (F21x _ n hn) (read_small (isEl_size ha) k.hS) (read_small (isSc_size hn) k.hS) (fun W => times_nay2 k W ha hb) (fun W => power_yes k W ha hn) (fun W u1 u2 v v' g1 g2 g3 g4 => powerEV k g1 g2 g3 g4 a9 (Nat.le_of_lt (isSc_lt hn))) (GT _ (GM _)) FU FUr GU T13 (fun W => lawText_bad 7 _ W rfl)
    · cases hn : isSc S M n
      · exact elw_bx (E := 0) (rP := 0) (TP := ⟨#[]⟩) k.hS0 k.K9 (F22x _ a ha) (F22x _ b hb) (F21x _ n hn) (read_small (isEl_size ha) k.hS) (read_small (isEl_size hb) k.hS) (fun W => times_yes k W ha hb) (fun W u1 u2 v v' g1 g2 g3 g4 => productV k g1 g2 g3 g4 a9 (k.el hb)) (GT _ (GM _)) (fun W => power_nay2 k W ha hn) FU FUr GU T13 (fun W => lawText_bad 6 _ W rfl)
      · exact elw_ok k.hS0 k.K9 (F22x _ a ha) (F22x _ b hb) (F21x _ n hn) (read_small (isEl_size ha) k.hS) (read_small (isEl_size hb) k.hS) (read_small (isSc_size hn) k.hS) (fun W => times_yes k W ha hb) (fun W u1 u2 v v' g1 g2 g3 g4 => productV k g1 g2 g3 g4 a9 (k.el hb)) (GT _ (GM _)) (fun W => power_yes k W ha hn) (fun W u1 u2 v v' g1 g2 g3 g4 => powerEV k g1 g2 g3 g4 a9 (Nat.le_of_lt (isSc_lt hn))) (GT _ (GM _)) FU FUr GU T13
theorem elems_none (w : World) (z : Int) (a b n : ByteArray) (z1 : z ≠ 1) (z2 : z ≠ 2) (z3 : z ≠ 3) : Calls Try.prog 6 #[.int .i64 z, .string a, .string b, .string n] w fun e w' => e = .returned (.bool true) ∧ Below w.heap.size w w' := by
  have G := fun W => ground0 W z (beq_eq_false_iff_ne.2 z1) (beq_eq_false_iff_ne.2 z2) (beq_eq_false_iff_ne.2 z3)
  have O := fun (W : World) (x : ByteArray) (rd tn : Nat) (caps : Array Value) => one_none (z := z) W (a := x) rfl size70 (by kernel_rfl) G (rd := rd) (tn := tn) (caps := caps)
  exact elw_no (q := 0) (p := 0) (S := 0) (A := 0) (D := 0) (E := 0) (rT := 0) (rP := 0) (rU := 0) (TT := ⟨#[]⟩) (TP := ⟨#[]⟩) (TU := ⟨#[]⟩) (fun W => kind0 W z (beq_eq_false_iff_ne.2 z1) (bne_iff_ne.2 z1) (beq_eq_false_iff_ne.2 z2) (beq_eq_false_iff_ne.2 z3))
    (fun W => times_face (withTwo_any (fun W2 q1 q2 q3 k1 k2 k3 hb2 => O W2 a _ _ _))) (fun W => power_face (withTwo_any (fun W2 q1 q2 q3 k1 k2 k3 hb2 => O W2 a _ _ _))) (fun W => under_face (O W a _ _ _)) (fun W s => lawText_ok s W) (fun W => lawText_bad 1 _ W rfl)
theorem groupElems_walk (z : Int) (a b n : ByteArray) (w : World) : Calls Try.prog 6 #[.int .i64 z, .string a, .string b, .string n] w fun e w' => e = .returned (.bool true) ∧ Below w.heap.size w w' := by
  by_cases z1 : z = 1
  · subst z1; exact elems_kind kd1 prime_p1 w a b n
  by_cases z2 : z = 2
  · subst z2; exact elems_kind kd2 prime_p2 w a b n
  by_cases z3 : z = 3
  · subst z3; exact elems_kind kd3 prime_p3 w a b n
  exact elems_none w z a b n z1 z2 z3
end Go.Proofs.Ytckfdpiohkggaaa
