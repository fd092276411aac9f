/- First and Back of claims of two bases, in a group that there is. -/
import Derived.Test.YtfbceknafmkipaaGreatSm3
import Derived.Test.YtfbceknafmkipaaGreatCf
import Derived.Test.YtfbceknafmkipaaGreatCh
set_option linter.unusedSimpArgs false
set_option linter.unusedVariables false
set_option maxRecDepth 100000
namespace Go.Proofs.YtfbceknafmkipaaGreat
open Go.RowKit Go.Deep Go.PlainAid

section
variable {z : Int} {G : Array Value} {S Wd M low one sq Ri Wd2 M2 low2 one2 sq2 Ri2 : Nat}
/-- Claims about the base and another one. -/
def mkC (S M M2 A : Nat) (U : List (Nat × Nat)) : List Cl := U.map fun t => ([EX S M M2 2, EX S M M2 A], [EX S M M2 t.1, EX S M M2 t.2])
/-- What comes back. -/
def bk (S M M2 A less : Nat) (U : List (Nat × Nat)) (m : List ByteArray) : List (List ByteArray) := List.zipWith (fun t s => [EX S M M2 (2 ^ numS s * t.1 ^ less), EX S M M2 (A ^ numS s * t.2 ^ less)]) U m
/-- What is said first. -/
def fs (S M M2 A : Nat) (m : List ByteArray) : List (List ByteArray) := m.map fun s => [EX S M M2 (2 ^ numS s), EX S M M2 (A ^ numS s)]
theorem mkC_len (S M M2 A : Nat) (U : List (Nat × Nat)) : (mkC S M M2 A U).length = U.length := by simp [mkC]
theorem mkC_at (S M M2 A : Nat) (U : List (Nat × Nat)) (i : Nat) (h : i < (mkC S M M2 A U).length) : (mkC S M M2 A U)[i] = ([EX S M M2 2, EX S M M2 A], [EX S M M2 (U[i]'(by rw [mkC_len] at h; exact h)).1, EX S M M2 (U[i]'(by rw [mkC_len] at h; exact h)).2]) := by simp [mkC]
/-- Nothing is wrong with them. -/
structure OkU (M2 A : Nat) (U : List (Nat × Nat)) : Prop where
  pos : 0 < U.length
  most : U.length ≤ 64
  hA : ¬ M2 ∣ A
  hU : ∀ i (h : i < U.length), ¬ M2 ∣ (U[i]).1 ∧ ¬ M2 ∣ (U[i]).2
theorem okC (k : KD z G S Wd M low one sq Ri Wd2 M2 low2 one2 sq2 Ri2) (h : PK S M M2) {A : Nat} {U : List (Nat × Nat)} (ok : OkU M2 A U) : OkC (isEl S M) (mkC S M M2 A U) := by
  refine ⟨by rw [mkC_len]; exact ok.pos, by rw [mkC_len]; exact ok.most, fun i hi => ?_, fun i hi => ?_⟩
  · rw [mkC_at S M M2 A U i hi]; simp
  · have hi' : i < U.length := by rw [mkC_len] at hi; exact hi
    rw [mkC_at S M M2 A U i hi]
    obtain ⟨h1, h2⟩ := ok.hU i hi'
    constructor
    · simp [elE k h h.n2, elE k h ok.hA]
    · simp [elE k h h1, elE k h h2]
theorem isSc_TX' {S M : Nat} {s : ByteArray} (h : isSc S M s = true) : s = TX S (numS s) := (TX_numS (isSc_size h)).symm
theorem SET (k : KD z G S Wd M low one sq Ri Wd2 M2 low2 one2 sq2 Ri2) (h : PK S M M2) {A : Nat} {U : List (Nat × Nat)} (ok : OkU M2 A U) {w : World} {a : Option Addr} {c : Nat} (hs : CM w a (mkC S M M2 A U)) (W : World) (hB : Below w.heap.size w W) :
    Calls Tryz.prog 14 #[.int .i64 z, .slice a (mkC S M M2 A U).length c] W fun e w' => e = .returned (.tuple #[.agg #[.int .i64 z, .slice a (mkC S M M2 A U).length c], .int .i64 0]) ∧ Below W.heap.size W w' :=
  setOf42 (fun V => groundOf_yes k V) (fun V hV => set83 (okC k h ok) ((hs.of_below hB).of_below hV) (fun s X => noElem133 (fun Y => memb_call k Y s)))
theorem WRO (k : KD z G S Wd M low one sq Ri Wd2 M2 low2 one2 sq2 Ri2) {w : World} {a b : Option Addr} {n c d : Nat} {m : List ByteArray} {t : Bool} (hn : m.length = n) (h64 : n ≤ 64) (hm : SL w b m) (ht : m.all (isSc S M) = t) (W : World) (hB : Below w.heap.size w W) :
    Calls Tryz.prog 20 #[.agg #[.int .i64 z, .slice a n c], .slice b n d] W fun e w' => e = .returned (.int .i64 (if t then 0 else 6)) ∧ Below W.heap.size W w' := by
  subst hn
  refine wrong43 (fun V hV => ?_)
  rw [← ht]
  exact scalars84 (isSc S M) (by omega) ((hm.of_below hB).of_below hV) (fun s X => noScalar k s X)
theorem BCK (k : KD z G S Wd M low one sq Ri Wd2 M2 low2 one2 sq2 Ri2) (h : PK S M M2) {A ch : Nat} {U : List (Nat × Nat)} (ok : OkU M2 A U) (hch : ch < M) {w : World} {a b : Option Addr} {c d : Nat} {m : List ByteArray} (hs : CM w a (mkC S M M2 A U)) (hm : SL w b m) (hml : m.length = U.length) (hsc : m.all (isSc S M) = true) :
    Calls Tryz.prog 10 #[.int .i64 z, .slice a (mkC S M M2 A U).length c, .string (TX S ch), .slice b (mkC S M M2 A U).length d] w fun e w' => (∃ a' c', e = .returned (.tuple #[.slice a' (mkC S M M2 A U).length c', .int .i64 0]) ∧ SLL w' a' (bk S M M2 A ((0 + M - ch) % M) U m)) ∧ Below w.heap.size w w' := by
  have hml' : m.length = (mkC S M M2 A U).length := by rw [mkC_len]; exact hml
  have h64 : (mkC S M M2 A U).length ≤ 64 := by rw [mkC_len]; exact ok.most
  have m1 := h.m1
  have l9 : (0 + M - ch) % M < M := Nat.mod_lt _ (by omega)
  refine back16_ok (SET k h ok hs) (fun W hW => WRO k hml' h64 hm hsc W hW) (fun W => by have q := noScalar k (TX S ch) W; rw [k.sc hch] at q; exact q) (fun W hW => ?_)
  refine back45_any (fun V => zero85 (fun X => zero_call k X)) (fun V => minus68 (fun X => SUB k (by omega) hch X)) (fun V pb hV hI hP => ?_)
  generalize (0 + M - ch) % M = less at *
  have q := both86_87 (w := V) (c := c) (d := d) (g := W.heap.size) (p := pb) (q := bk S M M2 A less U m) h64 hml' (by simp [bk, mkC_len]; omega) ((hs.of_below hW).of_below hV) ((hm.of_below hW).of_below hV) (fun i h1 h2 h3 a1 c1 a2 c2 X hX s1 s2 => ?_)
  · rw [hml'] at q
    exact q
  · have hi : i < U.length := by rw [mkC_len] at h1; exact h1
    have hsi : isSc S M m[i] = true := List.all_eq_true.1 hsc _ (List.getElem_mem h2)
    have e1 := mkC_at S M M2 A U i h1
    have e2 : (bk S M M2 A less U m)[i] = [EX S M M2 (2 ^ numS m[i] * (U[i]).1 ^ less), EX S M M2 (A ^ numS m[i] * (U[i]).2 ^ less)] := by simp [bk]
    obtain ⟨u1, u2⟩ := ok.hU i hi
    rw [e1] at s1 s2 ⊢
    rw [e2]
    have hx := isSc_TX' hsi
    have x9 := isSc_lt hsi
    generalize m[i] = s at *
    generalize U[i] = t at *
    have q := clos87 (w := X) (z := z) (g := W.heap.size) (p := pb) (a1 := a1) (a2 := a2) (c1 := c1) (c2 := c2) (bs := [EX S M M2 2, EX S M M2 A]) (ms := [EX S M M2 t.1, EX S M M2 t.2]) (q := [EX S M M2 (2 ^ numS s * t.1 ^ less), EX S M M2 (A ^ numS s * t.2 ^ less)]) (t := s) (u := TX S less) (by simp) rfl rfl s1 s2 (cell_keep (hI.cell 0 (by simp)) hX) (cell_keep (hP.cell 0 (by simp)) hX) (fun j j1 j2 j3 Y => ?_)
    · exact q
    · have p2 := fun V b1 b2 => PRO k h (x := 2) (y := t.1) (a := numS s) (b := less) h.n2 u1 x9 l9 V b1 b2
      have pA := fun V b1 b2 => PRO k h (x := A) (y := t.2) (a := numS s) (b := less) ok.hA u2 x9 l9 V b1 b2
      rw [← hx] at p2 pA
      match j, j1 with
      | 0, _ => exact powers89 p2
      | 1, _ => exact powers89 pA
end
end Go.Proofs.YtfbceknafmkipaaGreat
