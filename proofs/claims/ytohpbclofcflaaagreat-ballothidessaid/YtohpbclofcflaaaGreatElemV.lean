/- Elements, of every kind. -/
import Derived.Test.YtohpbclofcflaaaGreatKinds
import Derived.Test.YtohpbclofcflaaaGreatElem
import Derived.Test.YtohpbclofcflaaaGreatRefEl
import Derived.Test.YtohpbclofcflaaaGreatPrime
set_option linter.unusedSimpArgs false
set_option linter.unusedVariables false
namespace Go.Proofs.YtohpbclofcflaaaGreat
open Go.RowKit Go.Deep Go.PlainAid

/-- A number, or what is missing of it to the prime, whichever is not above the order. -/
def sgn (M M2 c : Nat) : Nat := if M < c then M2 - c else c
theorem sgn_le {M M2 c : Nat} (e : M2 = 2 * M + 1) (h : c < M2) : sgn M M2 c ≤ M := by unfold sgn; split <;> omega
theorem sgn_neg {M M2 c : Nat} (e : M2 = 2 * M + 1) (h0 : 0 < c) (h : c < M2) : sgn M M2 (M2 - c) = sgn M M2 c := by
  unfold sgn
  split <;> split <;> omega
section
variable {z : Int} {G : Array Value} {S Wd M low one sq Ri Wd2 M2 low2 one2 sq2 Ri2 : Nat}
theorem KD.big2 (k : KD z G S Wd M low one sq Ri Wd2 M2 low2 one2 sq2 Ri2) : M2 < BB ^ 4 := by have := k.fl2.big; have := k.fl2.m2; omega
theorem KD.pp (k : KD z G S Wd M low one sq Ri Wd2 M2 low2 one2 sq2 Ri2) : M2 ≤ M2 * M2 := Nat.le_mul_of_pos_left M2 (by have := k.fl2.m2; omega)
theorem KD.p5 (k : KD z G S Wd M low one sq Ri Wd2 M2 low2 one2 sq2 Ri2) : (dg 65536 M2).length ≤ 100000 := Nat.le_trans (dg_len_mono b16 k.pp) k.lp
theorem elem_yes (k : KD z G S Wd M low one sq Ri Wd2 M2 low2 one2 sq2 Ri2) {w : World} {g : Nat} (F : GH w g S Wd M low one sq Wd2 M2 low2 one2 sq2) {s : ByteArray} (h : isEl S M s = true) :
    Calls Tryz.prog 55 #[.pointer (some ⟨g, 0, none⟩), .string s] w fun e w' => e = .returned (.tuple #[A4 (numS s), .int .i64 0]) ∧ Below w.heap.size w w' := by
  have q := elemA F s k.hS k.big
  rw [h, if_pos rfl, if_pos rfl] at q
  exact q
theorem elem_nay (k : KD z G S Wd M low one sq Ri Wd2 M2 low2 one2 sq2 Ri2) {w : World} {g : Nat} (F : GH w g S Wd M low one sq Wd2 M2 low2 one2 sq2) {s : ByteArray} (h : isEl S M s = false) :
    Calls Tryz.prog 55 #[.pointer (some ⟨g, 0, none⟩), .string s] w fun e w' => e = .returned (.tuple #[A4 0, .int .i64 7]) ∧ Below w.heap.size w w' := by
  have q := elemA F s k.hS k.big
  rw [h, if_neg (by simp), if_neg (by simp)] at q
  exact q
theorem isEl_le {S M : Nat} {s : ByteArray} (h : isEl S M s = true) : numS s ≤ M := (of_decide_eq_true h).2.2
theorem isEl_pos {S M : Nat} {s : ByteArray} (h : isEl S M s = true) : numS s ≠ 0 := (of_decide_eq_true h).2.1
theorem isEl_size {S M : Nat} {s : ByteArray} (h : isEl S M s = true) : s.size = S := (of_decide_eq_true h).1
theorem KD.el (k : KD z G S Wd M low one sq Ri Wd2 M2 low2 one2 sq2 Ri2) {s : ByteArray} (h : isEl S M s = true) : numS s < M2 := by have := isEl_le h; have := k.m21; omega
theorem KD.elw (k : KD z G S Wd M low one sq Ri Wd2 M2 low2 one2 sq2 Ri2) {s : ByteArray} (h : isEl S M s = true) : numS s < BB ^ Wd2 := k.fl2.in_words (k.el h)
theorem signedA (k : KD z G S Wd M low one sq Ri Wd2 M2 low2 one2 sq2 Ri2) {w : World} {g : Nat} (F : GH w g S Wd M low one sq Wd2 M2 low2 one2 sq2) {c : Nat} (hc : c < M2) :
    Calls Tryz.prog 90 #[.pointer (some ⟨g, 0, none⟩), A4 c] w fun e w' => e = .returned (A4 (sgn M M2 c)) ∧ Below w.heap.size w w' := by
  have hb := k.big2
  have hb1 := k.big
  unfold sgn
  by_cases h : M < c
  · rw [if_pos h]
    refine signed_hi F (fun W => lessT W hb1 (by omega) h) (fun W => ?_)
    have e2 : borN M2 c = 0 := by unfold borN; rw [if_neg (by omega)]
    have e3 : subN M2 c = M2 - c := by unfold subN; rw [if_neg (by omega)]
    have q := minusA W (n := M2) (m := c) hb (by omega)
    rw [e2, e3] at q
    exact q
  · rw [if_neg h]
    exact signed_lo F (fun W => lessF W hb1 (by omega) h)
theorem toldElemA (k : KD z G S Wd M low one sq Ri Wd2 M2 low2 one2 sq2 Ri2) {w : World} {g : Nat} (F : GH w g S Wd M low one sq Wd2 M2 low2 one2 sq2) {c : Nat} (hc : c < M2) :
    Calls Tryz.prog 76 #[.pointer (some ⟨g, 0, none⟩), A4 c] w fun e w' => e = .returned (.tuple #[.string ⟨(beB S (sgn M M2 c)).toArray⟩, .int .i64 0]) ∧ Below w.heap.size w w' :=
  toldElem_words F (fun W hF => signedA k hF hc) (fun W hF => toldA hF.c k.hS (Nat.lt_of_le_of_lt (sgn_le k.m21 hc) k.big))
theorem KD.mod2 (k : KD z G S Wd M low one sq Ri Wd2 M2 low2 one2 sq2 Ri2) (x : Nat) : x % M2 < M2 := Nat.mod_lt _ (by have := k.fl2.m2; omega)
theorem gtimesA (k : KD z G S Wd M low one sq Ri Wd2 M2 low2 one2 sq2 Ri2) {w : World} {g : Nat} (F : GH w g S Wd M low one sq Wd2 M2 low2 one2 sq2) {a b : Nat} (ha : a < M2) (hb : b < M2) :
    Calls Tryz.prog 83 #[.pointer (some ⟨g, 0, none⟩), A4 a, A4 b] w fun e w' => e = .returned (.tuple #[.string ⟨(beB S (sgn M M2 (a * b % M2))).toArray⟩, .int .i64 0]) ∧ Below w.heap.size w w' :=
  gtimes_words F (fun W hF => ftimesA hF.fe k.fl2 (k.fl2.in_words ha) hb) (fun W hF => toldElemA k hF (k.mod2 _))
theorem gunderA (k : KD z G S Wd M low one sq Ri Wd2 M2 low2 one2 sq2 Ri2) {w : World} {g : Nat} (F : GH w g S Wd M low one sq Wd2 M2 low2 one2 sq2) {a : Nat} (ha : a < M2) :
    Calls Tryz.prog 88 #[.pointer (some ⟨g, 0, none⟩), A4 a] w fun e w' => e = .returned (.tuple #[.string ⟨(beB S (sgn M M2 (a ^ (M2 - 2) % M2))).toArray⟩, .int .i64 0]) ∧ Below w.heap.size w w' :=
  gunder_words F (fun W hF => finverseA hF.fe k.fl2 (k.fl2.in_words ha)) (fun W hF => toldElemA k hF (k.mod2 _))
theorem powers_one {w : World} {g o Wd M low one sq Ri : Nat} (F : FH w g o Wd M low one sq) (fl : Fld Wd M low one sq Ri) {a n b1 b2 : Nat} (ha : a < BB ^ Wd) (hn : n < BB ^ 4) (h1 : IHolds w b1 81 (us (ws4 a))) (h2 : IHolds w b2 81 (us (ws4 n))) :
    Calls Tryz.prog 77 #[.pointer (some ⟨g, o, none⟩), .slice (some ⟨b1, 0, none⟩) 1 1, .slice (some ⟨b2, 0, none⟩) 1 1] w fun e w' => e = .returned (A4 (a ^ n % M)) ∧ Below w.heap.size w w' := by
  have h := powers_any F fl [a] [n] _ _ (NumsV.one (X := a) h1) (NumsV.one (X := n) h2) rfl (by simp) (fun j hj => by
    simp only [List.length_cons, List.length_nil, Nat.zero_add, Nat.lt_one_iff] at hj
    subst hj
    exact ha) (fun j hj => by
    simp only [List.length_cons, List.length_nil, Nat.zero_add, Nat.lt_one_iff] at hj
    subst hj
    exact hn)
  have e : powP [a] [n] [a].length = a ^ n := by simp [powP]
  rw [e] at h
  exact h
theorem gpowerA (k : KD z G S Wd M low one sq Ri Wd2 M2 low2 one2 sq2 Ri2) {w : World} {g : Nat} (F : GH w g S Wd M low one sq Wd2 M2 low2 one2 sq2) {a n : Nat} (ha : a < M2) (hn : n < BB ^ 4) :
    Calls Tryz.prog 80 #[.pointer (some ⟨g, 0, none⟩), A4 a, A4 n] w fun e w' => e = .returned (.tuple #[.string ⟨(beB S (sgn M M2 (a ^ n % M2))).toArray⟩, .int .i64 0]) ∧ Below w.heap.size w w' :=
  gpower_words F (fun W b1 b2 hF h1 h2 => powers_one hF.fe k.fl2 (k.fl2.in_words ha) hn h1 h2) (fun W hF => toldElemA k hF (k.mod2 _))
/-! The program's answers. -/
theorem onel_nay (k : KD z G S Wd M low one sq Ri Wd2 M2 low2 one2 sq2 Ri2) (w : World) {a : ByteArray} (h : isEl S M a = false) {tn : Nat} {caps : Array Value} :
    Calls Tryz.prog 87 #[.int .i64 z, .func (.func 55) #[] #[], .string a, .func (.func tn) #[] caps] w fun e w' => e = .returned (.tuple #[.string ⟨#[]⟩, .int .i64 7]) ∧ Below w.heap.size w w' :=
  withOne_any (fun W p1 p2 p3 j1 j2 j3 hb => on48_88 k.hG k.hi k.h1 k.CG (fun W2 g hI hb2 => clos88_61_bad rfl (by decide) (j1.of_below hb2) (j2.of_below hb2) (fun W3 hb3 => elem_nay k ((k.gh W2 g hI).of_below hb3) h)))
theorem under_yes (k : KD z G S Wd M low one sq Ri Wd2 M2 low2 one2 sq2 Ri2) (w : World) {a : ByteArray} (h : isEl S M a = true) :
    Calls Tryz.prog 71 #[.int .i64 z, .string a] w fun e w' => e = .returned (.tuple #[.string ⟨(beB S (sgn M M2 (numS a ^ (M2 - 2) % M2))).toArray⟩, .int .i64 0]) ∧ Below w.heap.size w w' :=
  under_face (withOne_any (fun W p1 p2 p3 j1 j2 j3 hb => on48_88 k.hG k.hi k.h1 k.CG (fun W2 g hI hb2 => clos88_61_77 (j1.of_below hb2) (j2.of_below hb2) (j3.of_below hb2) (fun W3 hb3 => elem_yes k ((k.gh W2 g hI).of_below hb3) h)
    (fun W3 hb3 => gunderA k ((k.gh W2 g hI).of_below hb3) (k.el h)))))
theorem times_yes (k : KD z G S Wd M low one sq Ri Wd2 M2 low2 one2 sq2 Ri2) (w : World) {a b : ByteArray} (h : isEl S M a = true) (h' : isEl S M b = true) :
    Calls Tryz.prog 67 #[.int .i64 z, .string a, .string b] w fun e w' => e = .returned (.tuple #[.string ⟨(beB S (sgn M M2 (numS a * numS b % M2))).toArray⟩, .int .i64 0]) ∧ Below w.heap.size w w' :=
  times_face (withTwo_any (fun W2 q1 q2 q3 k1 k2 k3 hb2 => withOne_any (fun W3 p1 p2 p3 j1 j2 j3 hb3 => on48_88 k.hG k.hi k.h1 k.CG (fun W4 g hI hb4 =>
    clos88_61_96 (j1.of_below hb4) (j2.of_below hb4) (j3.of_below hb4) (fun W5 hb5 => elem_yes k ((k.gh W4 g hI).of_below hb5) h)
      (fun W5 hb5 => clos96_61_75 (((k1.of_below hb3).of_below hb4).of_below hb5) (((k2.of_below hb3).of_below hb4).of_below hb5) (((k3.of_below hb3).of_below hb4).of_below hb5)
        (fun W6 hb6 => elem_yes k (((k.gh W4 g hI).of_below hb5).of_below hb6) h')
        (fun W6 hb6 => gtimesA k (((k.gh W4 g hI).of_below hb5).of_below hb6) (k.el h) (k.el h')))))))
theorem times_nay (k : KD z G S Wd M low one sq Ri Wd2 M2 low2 one2 sq2 Ri2) (w : World) {a b : ByteArray} (h : isEl S M a = false) :
    Calls Tryz.prog 67 #[.int .i64 z, .string a, .string b] w fun e w' => e = .returned (.tuple #[.string ⟨#[]⟩, .int .i64 7]) ∧ Below w.heap.size w w' :=
  times_face (withTwo_any (fun W2 q1 q2 q3 k1 k2 k3 hb2 => onel_nay k W2 h))
theorem times_nay2 (k : KD z G S Wd M low one sq Ri Wd2 M2 low2 one2 sq2 Ri2) (w : World) {a b : ByteArray} (h : isEl S M a = true) (h' : isEl S M b = false) :
    Calls Tryz.prog 67 #[.int .i64 z, .string a, .string b] w fun e w' => e = .returned (.tuple #[.string ⟨#[]⟩, .int .i64 7]) ∧ Below w.heap.size w w' :=
  times_face (withTwo_any (fun W2 q1 q2 q3 k1 k2 k3 hb2 => withOne_any (fun W3 p1 p2 p3 j1 j2 j3 hb3 => on48_88 k.hG k.hi k.h1 k.CG (fun W4 g hI hb4 =>
    clos88_61_96 (j1.of_below hb4) (j2.of_below hb4) (j3.of_below hb4) (fun W5 hb5 => elem_yes k ((k.gh W4 g hI).of_below hb5) h)
      (fun W5 hb5 => clos96_61_bad rfl (by decide) (((k1.of_below hb3).of_below hb4).of_below hb5) (((k2.of_below hb3).of_below hb4).of_below hb5) (fun W6 hb6 => elem_nay k (((k.gh W4 g hI).of_below hb5).of_below hb6) h'))))))
theorem power_yes (k : KD z G S Wd M low one sq Ri Wd2 M2 low2 one2 sq2 Ri2) (w : World) {a b : ByteArray} (h : isEl S M a = true) (h' : isSc S M b = true) :
    Calls Tryz.prog 62 #[.int .i64 z, .string a, .string b] w fun e w' => e = .returned (.tuple #[.string ⟨(beB S (sgn M M2 (numS a ^ numS b % M2))).toArray⟩, .int .i64 0]) ∧ Below w.heap.size w w' :=
  power_face (withTwo_any (fun W2 q1 q2 q3 k1 k2 k3 hb2 => withOne_any (fun W3 p1 p2 p3 j1 j2 j3 hb3 => on48_88 k.hG k.hi k.h1 k.CG (fun W4 g hI hb4 =>
    clos88_61_96 (j1.of_below hb4) (j2.of_below hb4) (j3.of_below hb4) (fun W5 hb5 => elem_yes k ((k.gh W4 g hI).of_below hb5) h)
      (fun W5 hb5 => clos96_59_76 (((k1.of_below hb3).of_below hb4).of_below hb5) (((k2.of_below hb3).of_below hb4).of_below hb5) (((k3.of_below hb3).of_below hb4).of_below hb5)
        (fun W6 hb6 => scalar_yes k (((k.gh W4 g hI).of_below hb5).of_below hb6) h')
        (fun W6 hb6 => gpowerA k (((k.gh W4 g hI).of_below hb5).of_below hb6) (k.el h) (Nat.lt_trans (isSc_lt h') k.big)))))))
theorem power_nay (k : KD z G S Wd M low one sq Ri Wd2 M2 low2 one2 sq2 Ri2) (w : World) {a b : ByteArray} (h : isEl S M a = false) :
    Calls Tryz.prog 62 #[.int .i64 z, .string a, .string b] w fun e w' => e = .returned (.tuple #[.string ⟨#[]⟩, .int .i64 7]) ∧ Below w.heap.size w w' :=
  power_face (withTwo_any (fun W2 q1 q2 q3 k1 k2 k3 hb2 => onel_nay k W2 h))
theorem power_nay2 (k : KD z G S Wd M low one sq Ri Wd2 M2 low2 one2 sq2 Ri2) (w : World) {a b : ByteArray} (h : isEl S M a = true) (h' : isSc S M b = false) :
    Calls Tryz.prog 62 #[.int .i64 z, .string a, .string b] w fun e w' => e = .returned (.tuple #[.string ⟨#[]⟩, .int .i64 6]) ∧ Below w.heap.size w w' :=
  power_face (withTwo_any (fun W2 q1 q2 q3 k1 k2 k3 hb2 => withOne_any (fun W3 p1 p2 p3 j1 j2 j3 hb3 => on48_88 k.hG k.hi k.h1 k.CG (fun W4 g hI hb4 =>
    clos88_61_96 (j1.of_below hb4) (j2.of_below hb4) (j3.of_below hb4) (fun W5 hb5 => elem_yes k ((k.gh W4 g hI).of_below hb5) h)
      (fun W5 hb5 => clos96_59_bad rfl (by decide) (((k1.of_below hb3).of_below hb4).of_below hb5) (((k2.of_below hb3).of_below hb4).of_below hb5) (fun W6 hb6 => scalar_nay k (((k.gh W4 g hI).of_below hb5).of_below hb6) h'))))))
/-! The reference's. -/
theorem lowV (k : KD z G S Wd M low one sq Ri Wd2 M2 low2 one2 sq2 Ri2) {w : World} {a : Nat} {u1 u2 va : Value} (h1 : NumV w 65536 M u1) (h2 : NumV w 65536 M2 u2) (ha : NumV w 65536 a va) (a9 : a < M2) :
    Calls Tryz.prog 63 #[.agg #[.int .i64 (S : Int), u1, u2], va] w fun e w' => (∃ v, e = .returned v ∧ NumV w' 65536 (sgn M M2 a) v) ∧ Below w.heap.size w w' := by
  have N1 : Hid (NumV w 65536 M u1) := h1
  have N2 : Hid (NumV w 65536 M2 u2) := h2
  obtain ⟨qa, ql, qc, rfl⟩ := sN N1
  obtain ⟨pa, pl, pc, rfl⟩ := sN N2
  have lp := k.p5
  have lq := k.l5
  unfold sgn
  by_cases h : M < a
  · rw [if_pos h]
    exact low_hi N1 N2 ha (c := cmp3 (a : Int) (M : Int)) (by rw [cmp3_gt (by omega)]; simp) (fun W v v' g1 g2 => compareV g1 g2 (lenD (Nat.le_of_lt a9) lp) (lenD (Nat.le_refl _) lq)) (fun W v v' g1 g2 => minusV g1 g2 (lenD (Nat.le_refl _) lp) (lenD (Nat.le_of_lt a9) lp) (by omega))
  · rw [if_neg h]
    refine low_lo (r := 0) N1 N2 ha (c := cmp3 (a : Int) (M : Int)) ?_ (fun W v v' g1 g2 => compareV g1 g2 (lenD (Nat.le_of_lt a9) lp) (lenD (Nat.le_refl _) lq))
    rcases Nat.lt_or_eq_of_le (Nat.le_of_not_lt h) with h3 | h3
    · rw [cmp3_lt (by omega)]; simp
    · rw [cmp3_eq (by omega)]; simp
theorem productV (k : KD z G S Wd M low one sq Ri Wd2 M2 low2 one2 sq2 Ri2) {w : World} {a b : Nat} {u1 u2 va vb : Value} (h1 : NumV w 65536 M u1) (h2 : NumV w 65536 M2 u2) (ha : NumV w 65536 a va) (hb : NumV w 65536 b vb) (a9 : a < M2) (b9 : b < M2) :
    Calls Tryz.prog 42 #[.agg #[.int .i64 (S : Int), u1, u2], va, vb] w fun e w' => (∃ v, e = .returned v ∧ NumV w' 65536 (sgn M M2 (a * b % M2)) v) ∧ Below w.heap.size w w' := by
  have N1 : Hid (NumV w 65536 M u1) := h1
  have N2 : Hid (NumV w 65536 M2 u2) := h2
  obtain ⟨qa, ql, qc, rfl⟩ := sN N1
  obtain ⟨pa, pl, pc, rfl⟩ := sN N2
  have lp := k.p5
  have hm := k.fl2.m2
  exact product_words N1 N2 ha hb (fun W v v' g1 g2 => timesV g1 g2 (lenD (Nat.le_of_lt a9) lp) (lenD (Nat.le_of_lt b9) lp)) (fun W v v' g1 g2 => modV g1 g2 (lenD (Nat.mul_le_mul (Nat.le_of_lt a9) (Nat.le_of_lt b9)) k.lp) (lenD (Nat.le_refl _) lp) (by omega)) (fun W v g1 g2 g3 => lowV k g1 g2 g3 (k.mod2 _))
theorem powerEV (k : KD z G S Wd M low one sq Ri Wd2 M2 low2 one2 sq2 Ri2) {w : World} {a b : Nat} {u1 u2 va vb : Value} (h1 : NumV w 65536 M u1) (h2 : NumV w 65536 M2 u2) (ha : NumV w 65536 a va) (hb : NumV w 65536 b vb) (a9 : a < M2) (b9 : b ≤ M) :
    Calls Tryz.prog 44 #[.agg #[.int .i64 (S : Int), u1, u2], va, vb] w fun e w' => (∃ v, e = .returned v ∧ NumV w' 65536 (sgn M M2 (a ^ b % M2)) v) ∧ Below w.heap.size w w' := by
  have N1 : Hid (NumV w 65536 M u1) := h1
  have N2 : Hid (NumV w 65536 M2 u2) := h2
  obtain ⟨qa, ql, qc, rfl⟩ := sN N1
  obtain ⟨pa, pl, pc, rfl⟩ := sN N2
  exact power_words N1 N2 ha hb (fun W v v' v'' g1 g2 g3 => powerV g1 g2 g3 a9 k.fl2.m2 (Nat.le_trans (dg_len_mono b16 b9) k.l5) (by have := k.lp; omega)) (fun W v g1 g2 g3 => lowV k g1 g2 g3 (k.mod2 _))
theorem underV (k : KD z G S Wd M low one sq Ri Wd2 M2 low2 one2 sq2 Ri2) {w : World} {a : Nat} {u1 u2 va : Value} (h1 : NumV w 65536 M u1) (h2 : NumV w 65536 M2 u2) (ha : NumV w 65536 a va) (a9 : a < M2) :
    Calls Tryz.prog 50 #[.agg #[.int .i64 (S : Int), u1, u2], va] w fun e w' => (∃ v, e = .returned v ∧ NumV w' 65536 (sgn M M2 (a ^ (M - 1) % M2)) v) ∧ Below w.heap.size w w' := by
  have N1 : Hid (NumV w 65536 M u1) := h1
  have N2 : Hid (NumV w 65536 M2 u2) := h2
  obtain ⟨qa, ql, qc, rfl⟩ := sN N1
  obtain ⟨pa, pl, pc, rfl⟩ := sN N2
  have lq := k.l5
  have hm := k.m2
  exact under_words N1 N2 ha (fun W => of_any W 1 (by omega)) (fun W v v' g1 g2 => minusV g1 g2 (lenD (Nat.le_refl _) lq) (lenD (by omega) lq) (by omega)) (fun W v v' g1 g2 g3 g4 => powerEV k g1 g2 g3 g4 a9 (by omega))
/-- The inverse, one way or the other, but for its sign. -/
theorem under_same {M M2 a : Nat} (hp : IsP M2) (e : M2 = 2 * M + 1) (h0 : a ≠ 0) (h9 : a < M2) (hM : 1 ≤ M) : sgn M M2 (a ^ (M2 - 2) % M2) = sgn M M2 (a ^ (M - 1) % M2) := by
  have hn : ¬ M2 ∣ a := hp.not_dvd_lt (by omega) h9
  have hn2 := hp.not_dvd_pow hn (M - 1)
  have e1 : a ^ (M2 - 2) = a ^ M * a ^ (M - 1) := by rw [← Nat.pow_add]; congr 1; omega
  rw [e1, Nat.mul_mod]
  obtain ⟨u, hu⟩ : ∃ u, u = a ^ (M - 1) % M2 := ⟨_, rfl⟩
  have u0 : u ≠ 0 := fun h => hn2 (Nat.dvd_of_mod_eq_zero (by rw [← hu]; exact h))
  have u9 : u < M2 := by rw [hu]; exact Nat.mod_lt _ (by omega)
  rw [← hu]
  rcases half_power hp e hn with g | g
  · rw [g, Nat.one_mul, Nat.mod_eq_of_lt u9]
  · rw [g]
    have e2 : (M2 - 1) * u % M2 = M2 - u := by
      have : (M2 - 1) * u = (M2 - u) + M2 * (u - 1) := by
        obtain ⟨v, rfl⟩ : ∃ v, u = v + 1 := ⟨u - 1, by omega⟩
        obtain ⟨m, rfl⟩ : ∃ m, M2 = m + 1 := ⟨M2 - 1, by omega⟩
        simp only [Nat.add_sub_cancel, Nat.add_mul, Nat.mul_add, Nat.mul_one, Nat.one_mul]
        omega
      rw [this, Nat.add_mul_mod_self_left, Nat.mod_eq_of_lt (by omega)]
    rw [e2]
    exact sgn_neg e (by omega) u9
end
end Go.Proofs.YtohpbclofcflaaaGreat
