/- What is known of the kinds, and the answers of Add, Sub, Mul, Inv. -/
import Derived.Test.YtlimogamjgehjaaGreatKnowsAll
import Derived.Test.YtlimogamjgehjaaGreatFace
import Derived.Test.YtlimogamjgehjaaGreatInv
import Derived.Test.YtlimogamjgehjaaGreatPower
set_option linter.unusedSimpArgs false
set_option linter.unusedVariables false
namespace Go.Proofs.YtlimogamjgehjaaGreat
open Go.RowKit Go.Deep Go.PlainAid

/-- All that is known of a kind. -/
structure KD (z : Int) (G : Array Value) (S Wd M low one sq Ri Wd2 M2 low2 one2 sq2 Ri2 : Nat) : Prop where
  hS : S ≤ 32
  hS0 : ((S : Int) == 0) = false
  fl : Fld Wd M low one sq Ri
  fl2 : Fld Wd2 M2 low2 one2 sq2 Ri2
  m21 : M2 = 2 * M + 1
  sz : M ≤ 256 ^ S
  wd : 256 ^ S ≤ BB ^ Wd
  wd2 : 256 ^ S ≤ BB ^ Wd2
  lq : (dg 65536 (M * M)).length ≤ 100000
  lp : (dg 65536 (M2 * M2)).length ≤ 100000
  hG : gz.size = G.size
  hi : (Tryz.prog.info? 102).map (·.size) = some G.size
  h1 : G.all (·.oneCell') = true
  K9 : ∀ W, Calls Tryz.prog 13 #[.int .i64 z] W fun e w' => (∃ u1 u2, e = .returned (.agg #[.int .i64 (S : Int), u1, u2]) ∧ NumV w' 65536 M u1 ∧ NumV w' 65536 M2 u2) ∧ Below W.heap.size W w'
  CG : Hid (∀ W, Calls Tryz.prog 85 #[.int .i64 z] W fun e w' => e = .returned (.tuple #[.agg G, .bool true]) ∧ Below W.heap.size W w')
  gh : ∀ W g, IHolds W g 102 G.toList → GH W g S Wd M low one sq Wd2 M2 low2 one2 sq2
section
variable {z : Int} {G : Array Value} {S Wd M low one sq Ri Wd2 M2 low2 one2 sq2 Ri2 : Nat}
theorem KD.m2 (k : KD z G S Wd M low one sq Ri Wd2 M2 low2 one2 sq2 Ri2) : 2 ≤ M := k.fl.m2
theorem KD.big (k : KD z G S Wd M low one sq Ri Wd2 M2 low2 one2 sq2 Ri2) : M < BB ^ 4 := by have := k.fl.big; have := k.fl.m2; omega
theorem KD.mm (k : KD z G S Wd M low one sq Ri Wd2 M2 low2 one2 sq2 Ri2) : M ≤ M * M := Nat.le_mul_of_pos_left M (by have := k.fl.m2; omega)
theorem KD.l5 (k : KD z G S Wd M low one sq Ri Wd2 M2 low2 one2 sq2 Ri2) : (dg 65536 M).length ≤ 100000 := Nat.le_trans (dg_len_mono b16 k.mm) k.lq
theorem KD.l6 (k : KD z G S Wd M low one sq Ri Wd2 M2 low2 one2 sq2 Ri2) : (dg 65536 M).length ≤ 1000000 := by have := k.l5; omega
theorem scalar_yes (k : KD z G S Wd M low one sq Ri Wd2 M2 low2 one2 sq2 Ri2) {w : World} {g : Nat} (F : GH w g S Wd M low one sq Wd2 M2 low2 one2 sq2) {s : ByteArray} (h : isSc S M s = true) :
    Calls Tryz.prog 73 #[.pointer (some ⟨g, 0, none⟩), .string s] w fun e w' => e = .returned (.tuple #[A4 (numS s), .int .i64 0]) ∧ Below w.heap.size w w' := by
  have q := scalarA F s k.hS k.big
  rw [h, if_pos rfl, if_pos rfl] at q
  exact q
theorem scalar_nay (k : KD z G S Wd M low one sq Ri Wd2 M2 low2 one2 sq2 Ri2) {w : World} {g : Nat} (F : GH w g S Wd M low one sq Wd2 M2 low2 one2 sq2) {s : ByteArray} (h : isSc S M s = false) :
    Calls Tryz.prog 73 #[.pointer (some ⟨g, 0, none⟩), .string s] w fun e w' => e = .returned (.tuple #[A4 0, .int .i64 6]) ∧ Below w.heap.size w w' := by
  have q := scalarA F s k.hS k.big
  rw [h, if_neg (by simp), if_neg (by simp)] at q
  exact q
theorem isSc_lt {S M : Nat} {s : ByteArray} (h : isSc S M s = true) : numS s < M := (of_decide_eq_true h).2
theorem isSc_size {S M : Nat} {s : ByteArray} (h : isSc S M s = true) : s.size = S := (of_decide_eq_true h).1
/-! The program's answers. -/
theorem one_nay (k : KD z G S Wd M low one sq Ri Wd2 M2 low2 one2 sq2 Ri2) (w : World) {a : ByteArray} (h : isSc S M a = false) {tn : Nat} {caps : Array Value} :
    Calls Tryz.prog 86 #[.int .i64 z, .func (.func 73) #[] #[], .string a, .func (.func tn) #[] caps] w fun e w' => e = .returned (.tuple #[.string ⟨#[]⟩, .int .i64 6]) ∧ Below w.heap.size w w' :=
  withOne_any (fun W p1 p2 p3 j1 j2 j3 hb => on48_88 k.hG k.hi k.h1 k.CG (fun W2 g hI hb2 => clos88_59_bad rfl (by decide) (j1.of_below hb2) (j2.of_below hb2) (fun W3 hb3 => scalar_nay k ((k.gh W2 g hI).of_below hb3) h)))
theorem one_none {G0 : Array Value} (w : World) {a : ByteArray} (hG : gz.size = G0.size) (hi : (Tryz.prog.info? 102).map (·.size) = some G0.size) (h1 : G0.all (·.oneCell') = true)
    (CG : Hid (∀ W, Calls Tryz.prog 85 #[.int .i64 z] W fun e w' => e = .returned (.tuple #[.agg G0, .bool false]) ∧ Below W.heap.size W w')) {rd tn : Nat} {caps : Array Value} :
    Calls Tryz.prog 86 #[.int .i64 z, .func (.func rd) #[] #[], .string a, .func (.func tn) #[] caps] w fun e w' => e = .returned (.tuple #[.string ⟨#[]⟩, .int .i64 1]) ∧ Below w.heap.size w w' :=
  withOne_any (fun W p1 p2 p3 j1 j2 j3 hb => on48_88_no hG hi h1 CG)
theorem inv_yes (k : KD z G S Wd M low one sq Ri Wd2 M2 low2 one2 sq2 Ri2) (w : World) {a : ByteArray} (h : isSc S M a = true) (h0 : numS a ≠ 0) :
    Calls Tryz.prog 70 #[.int .i64 z, .string a] w fun e w' => e = .returned (.tuple #[.string ⟨(beB S (numS a ^ (M - 2) % M)).toArray⟩, .int .i64 0]) ∧ Below w.heap.size w w' := by
  have hl := isSc_lt h
  have hb4 : numS a < BB ^ 4 := Nat.lt_trans hl k.big
  have hm := k.m2
  exact inv_face (withOne_any (fun W p1 p2 p3 j1 j2 j3 hb => on48_88 k.hG k.hi k.h1 k.CG (fun W2 g hI hb2 => clos88_59_66 (j1.of_below hb2) (j2.of_below hb2) (j3.of_below hb2) (fun W3 hb3 => scalar_yes k ((k.gh W2 g hI).of_below hb3) h)
    (fun W3 hb3 => ginverse_ok (decide_eq_false (fun q => h0 ((w4_all_zero hb4).1 q))) (fun W4 hb4 => finverseA (((k.gh W2 g hI).of_below hb3).of_below hb4).fs k.fl (k.fl.in_words hl)) (fun W4 hb4 => toldA (((k.gh W2 g hI).of_below hb3).of_below hb4).c k.hS (Nat.lt_trans (Nat.mod_lt _ (by omega)) k.big))))))
theorem inv_null (k : KD z G S Wd M low one sq Ri Wd2 M2 low2 one2 sq2 Ri2) (w : World) {a : ByteArray} (h : isSc S M a = true) (h0 : numS a = 0) :
    Calls Tryz.prog 70 #[.int .i64 z, .string a] w fun e w' => e = .returned (.tuple #[.string ⟨#[]⟩, .int .i64 5]) ∧ Below w.heap.size w w' := by
  have hl := isSc_lt h
  have hb4 : numS a < BB ^ 4 := Nat.lt_trans hl k.big
  exact inv_face (withOne_any (fun W p1 p2 p3 j1 j2 j3 hb => on48_88 k.hG k.hi k.h1 k.CG (fun W2 g hI hb2 => clos88_59_66 (j1.of_below hb2) (j2.of_below hb2) (j3.of_below hb2) (fun W3 hb3 => scalar_yes k ((k.gh W2 g hI).of_below hb3) h)
    (fun W3 hb3 => ginverse_zero (t := ⟨#[]⟩) (decide_eq_true ((w4_all_zero hb4).2 h0))))))
theorem subF_mod {M a b : Nat} (ha : a < M) (hb : b < M) : subF M a b = (a + M - b) % M := by
  unfold subF
  split
  · rw [Nat.mod_eq_of_lt (by omega)]
  · rw [show a + M - b = (a - b) + M by omega, Nat.add_mod_right, Nat.mod_eq_of_lt (by omega)]
theorem add_yes (k : KD z G S Wd M low one sq Ri Wd2 M2 low2 one2 sq2 Ri2) (w : World) {a b : ByteArray} (h : isSc S M a = true) (h' : isSc S M b = true) :
    Calls Tryz.prog 61 #[.int .i64 z, .string a, .string b] w fun e w' => e = .returned (.tuple #[.string ⟨(beB S ((numS a + numS b) % M)).toArray⟩, .int .i64 0]) ∧ Below w.heap.size w w' := by
  have ha := isSc_lt h
  have hb' := isSc_lt h'
  have hm := k.m2
  exact add_face (reckon_any (fun W r1 jr hb => withTwo_any (fun W2 q1 q2 q3 k1 k2 k3 hb2 => withOne_any (fun W3 p1 p2 p3 j1 j2 j3 hb3 => on48_88 k.hG k.hi k.h1 k.CG (fun W4 g hI hb4 =>
    clos88_59_96 (j1.of_below hb4) (j2.of_below hb4) (j3.of_below hb4) (fun W5 hb5 => scalar_yes k ((k.gh W4 g hI).of_below hb5) h)
      (fun W5 hb5 => clos96_59_91 (((k1.of_below hb3).of_below hb4).of_below hb5) (((k2.of_below hb3).of_below hb4).of_below hb5) (((k3.of_below hb3).of_below hb4).of_below hb5)
        (fun W6 hb6 => scalar_yes k (((k.gh W4 g hI).of_below hb5).of_below hb6) h')
        (fun W6 hb6 => clos91_70 (((((jr.of_below hb2).of_below hb3).of_below hb4).of_below hb5).of_below hb6)
          (fun W7 hb7 => by have q := fplusA ((((k.gh W4 g hI).of_below hb5).of_below hb6).of_below hb7).fs ha hb' k.fl.big; rw [belowN_mod ha hb'] at q; exact q)
          (fun W7 hb7 => toldA ((((k.gh W4 g hI).of_below hb5).of_below hb6).of_below hb7).c k.hS (Nat.lt_trans (Nat.mod_lt _ (by omega)) k.big)))))))))
theorem add_nay (k : KD z G S Wd M low one sq Ri Wd2 M2 low2 one2 sq2 Ri2) (w : World) {a b : ByteArray} (h : isSc S M a = false) :
    Calls Tryz.prog 61 #[.int .i64 z, .string a, .string b] w fun e w' => e = .returned (.tuple #[.string ⟨#[]⟩, .int .i64 6]) ∧ Below w.heap.size w w' :=
  add_face (reckon_any (fun W r1 jr hb => withTwo_any (fun W2 q1 q2 q3 k1 k2 k3 hb2 => one_nay k W2 h)))
theorem add_nay2 (k : KD z G S Wd M low one sq Ri Wd2 M2 low2 one2 sq2 Ri2) (w : World) {a b : ByteArray} (h : isSc S M a = true) (h' : isSc S M b = false) :
    Calls Tryz.prog 61 #[.int .i64 z, .string a, .string b] w fun e w' => e = .returned (.tuple #[.string ⟨#[]⟩, .int .i64 6]) ∧ Below w.heap.size w w' :=
  add_face (reckon_any (fun W r1 jr hb => withTwo_any (fun W2 q1 q2 q3 k1 k2 k3 hb2 => withOne_any (fun W3 p1 p2 p3 j1 j2 j3 hb3 => on48_88 k.hG k.hi k.h1 k.CG (fun W4 g hI hb4 =>
    clos88_59_96 (j1.of_below hb4) (j2.of_below hb4) (j3.of_below hb4) (fun W5 hb5 => scalar_yes k ((k.gh W4 g hI).of_below hb5) h)
      (fun W5 hb5 => clos96_59_bad rfl (by decide) (((k1.of_below hb3).of_below hb4).of_below hb5) (((k2.of_below hb3).of_below hb4).of_below hb5) (fun W6 hb6 => scalar_nay k (((k.gh W4 g hI).of_below hb5).of_below hb6) h')))))))
theorem mul_yes (k : KD z G S Wd M low one sq Ri Wd2 M2 low2 one2 sq2 Ri2) (w : World) {a b : ByteArray} (h : isSc S M a = true) (h' : isSc S M b = true) :
    Calls Tryz.prog 62 #[.int .i64 z, .string a, .string b] w fun e w' => e = .returned (.tuple #[.string ⟨(beB S (numS a * numS b % M)).toArray⟩, .int .i64 0]) ∧ Below w.heap.size w w' := by
  have ha := isSc_lt h
  have hb' := isSc_lt h'
  have hm := k.m2
  exact mul_face (reckon_any (fun W r1 jr hb => withTwo_any (fun W2 q1 q2 q3 k1 k2 k3 hb2 => withOne_any (fun W3 p1 p2 p3 j1 j2 j3 hb3 => on48_88 k.hG k.hi k.h1 k.CG (fun W4 g hI hb4 =>
    clos88_59_96 (j1.of_below hb4) (j2.of_below hb4) (j3.of_below hb4) (fun W5 hb5 => scalar_yes k ((k.gh W4 g hI).of_below hb5) h)
      (fun W5 hb5 => clos96_59_91 (((k1.of_below hb3).of_below hb4).of_below hb5) (((k2.of_below hb3).of_below hb4).of_below hb5) (((k3.of_below hb3).of_below hb4).of_below hb5)
        (fun W6 hb6 => scalar_yes k (((k.gh W4 g hI).of_below hb5).of_below hb6) h')
        (fun W6 hb6 => clos91_72 (((((jr.of_below hb2).of_below hb3).of_below hb4).of_below hb5).of_below hb6)
          (fun W7 hb7 => ftimesA ((((k.gh W4 g hI).of_below hb5).of_below hb6).of_below hb7).fs k.fl (k.fl.in_words ha) hb')
          (fun W7 hb7 => toldA ((((k.gh W4 g hI).of_below hb5).of_below hb6).of_below hb7).c k.hS (Nat.lt_trans (Nat.mod_lt _ (by omega)) k.big)))))))))
theorem mul_nay (k : KD z G S Wd M low one sq Ri Wd2 M2 low2 one2 sq2 Ri2) (w : World) {a b : ByteArray} (h : isSc S M a = false) :
    Calls Tryz.prog 62 #[.int .i64 z, .string a, .string b] w fun e w' => e = .returned (.tuple #[.string ⟨#[]⟩, .int .i64 6]) ∧ Below w.heap.size w w' :=
  mul_face (reckon_any (fun W r1 jr hb => withTwo_any (fun W2 q1 q2 q3 k1 k2 k3 hb2 => one_nay k W2 h)))
theorem mul_nay2 (k : KD z G S Wd M low one sq Ri Wd2 M2 low2 one2 sq2 Ri2) (w : World) {a b : ByteArray} (h : isSc S M a = true) (h' : isSc S M b = false) :
    Calls Tryz.prog 62 #[.int .i64 z, .string a, .string b] w fun e w' => e = .returned (.tuple #[.string ⟨#[]⟩, .int .i64 6]) ∧ Below w.heap.size w w' :=
  mul_face (reckon_any (fun W r1 jr hb => withTwo_any (fun W2 q1 q2 q3 k1 k2 k3 hb2 => withOne_any (fun W3 p1 p2 p3 j1 j2 j3 hb3 => on48_88 k.hG k.hi k.h1 k.CG (fun W4 g hI hb4 =>
    clos88_59_96 (j1.of_below hb4) (j2.of_below hb4) (j3.of_below hb4) (fun W5 hb5 => scalar_yes k ((k.gh W4 g hI).of_below hb5) h)
      (fun W5 hb5 => clos96_59_bad rfl (by decide) (((k1.of_below hb3).of_below hb4).of_below hb5) (((k2.of_below hb3).of_below hb4).of_below hb5) (fun W6 hb6 => scalar_nay k (((k.gh W4 g hI).of_below hb5).of_below hb6) h')))))))
/-! The reference's. -/
theorem addV (k : KD z G S Wd M low one sq Ri Wd2 M2 low2 one2 sq2 Ri2) {w : World} {a b : Nat} {u1 u2 va vb : Value} (h1 : NumV w 65536 M u1) (h2 : NumV w 65536 M2 u2) (ha : NumV w 65536 a va) (hb : NumV w 65536 b vb) (a9 : a < M) (b9 : b < M) :
    Calls Tryz.prog 45 #[.agg #[.int .i64 (S : Int), u1, u2], va, vb] w fun e w' => (∃ v, e = .returned v ∧ NumV w' 65536 ((a + b) % M) v) ∧ Below w.heap.size w w' := by
  have N1 : Hid (NumV w 65536 M u1) := h1
  have N2 : Hid (NumV w 65536 M2 u2) := h2
  obtain ⟨qa, ql, qc, rfl⟩ := sN N1
  obtain ⟨pa, pl, pc, rfl⟩ := sN N2
  have lq := k.l5
  exact add_words N1 ha hb (fun W v v' g1 g2 => plusV g1 g2 (lenD (by omega) lq) (lenD (by omega) lq)) (fun W v v' g1 g2 => modV g1 g2 (len2 (by omega) lq) (lenD (Nat.le_refl _) lq) (by omega))
theorem mulV (k : KD z G S Wd M low one sq Ri Wd2 M2 low2 one2 sq2 Ri2) {w : World} {a b : Nat} {u1 u2 va vb : Value} (h1 : NumV w 65536 M u1) (h2 : NumV w 65536 M2 u2) (ha : NumV w 65536 a va) (hb : NumV w 65536 b vb) (a9 : a < M) (b9 : b < M) :
    Calls Tryz.prog 36 #[.agg #[.int .i64 (S : Int), u1, u2], va, vb] w fun e w' => (∃ v, e = .returned v ∧ NumV w' 65536 (a * b % M) v) ∧ Below w.heap.size w w' := by
  have N1 : Hid (NumV w 65536 M u1) := h1
  have N2 : Hid (NumV w 65536 M2 u2) := h2
  obtain ⟨qa, ql, qc, rfl⟩ := sN N1
  obtain ⟨pa, pl, pc, rfl⟩ := sN N2
  have lq := k.l5
  exact mul_words N1 ha hb (fun W v v' g1 g2 => timesV g1 g2 (lenD (by omega) lq) (lenD (by omega) lq)) (fun W v v' g1 g2 => modV g1 g2 (lenD (Nat.mul_le_mul (by omega) (by omega)) k.lq) (lenD (Nat.le_refl _) lq) (by omega))
theorem invV (k : KD z G S Wd M low one sq Ri Wd2 M2 low2 one2 sq2 Ri2) {w : World} {a : Nat} {u1 u2 va : Value} (h1 : NumV w 65536 M u1) (h2 : NumV w 65536 M2 u2) (ha : NumV w 65536 a va) (a9 : a < M) :
    Calls Tryz.prog 38 #[.agg #[.int .i64 (S : Int), u1, u2], va] w fun e w' => (∃ v, e = .returned v ∧ NumV w' 65536 (a ^ (M - 2) % M) v) ∧ Below w.heap.size w w' := by
  have N1 : Hid (NumV w 65536 M u1) := h1
  have N2 : Hid (NumV w 65536 M2 u2) := h2
  obtain ⟨qa, ql, qc, rfl⟩ := sN N1
  obtain ⟨pa, pl, pc, rfl⟩ := sN N2
  have lq := k.l5
  have hm := k.m2
  exact inv_words N1 ha (fun W => of_any W 2 (by omega)) (fun W v v' g1 g2 => minusV g1 g2 (lenD (Nat.le_refl _) lq) (lenD hm lq) hm) (fun W v v' v'' g1 g2 g3 => powerV g1 g2 g3 a9 hm (Nat.le_trans (dg_len_mono b16 (Nat.sub_le _ _)) lq) (by have := k.lq; omega))
theorem read_small {S : Nat} {s : ByteArray} (h : s.size = S) (hS : S ≤ 32) (W : World) : Calls Tryz.prog 28 #[.string s] W fun e w' => (∃ v, e = .returned v ∧ NumV w' 65536 (numS s) v) ∧ Below W.heap.size W w' := read_any W s (by omega)
end
theorem kd1 : KD 1 gr1 2 1 641 28778071877862015 1 1 1 1 1283 690135397925220949 989 475 48 where
  hS := by omega
  hS0 := by decide
  fl := fs1
  fl2 := fe1
  m21 := by decide +kernel
  sz := by decide +kernel
  wd := by decide +kernel
  wd2 := by decide +kernel
  lq := Nat.le_trans (len_lt (k := 40) (by decide +kernel)) (by omega)
  lp := Nat.le_trans (len_lt (k := 40) (by decide +kernel)) (by omega)
  hG := rfl
  hi := size70
  h1 := by kernel_rfl
  K9 := fun W => kind1 W
  CG := fun W => ground1 W
  gh := gh1
theorem kd2 : KD 2 gr2 8 1 576465431670292481 14411523486952456191 576315691930484705 164727685076202836 450363764723817667 1 1152930863340584963 2177741659672237397 1152781123600777171 169519337302233854 136109958580553132 where
  hS := by omega
  hS0 := by decide
  fl := fs2
  fl2 := fe2
  m21 := by decide +kernel
  sz := by decide +kernel
  wd := by decide +kernel
  wd2 := by decide +kernel
  lq := Nat.le_trans (len_lt (k := 40) (by decide +kernel)) (by omega)
  lp := Nat.le_trans (len_lt (k := 40) (by decide +kernel)) (by omega)
  hG := rfl
  hi := size70
  h1 := by kernel_rfl
  K9 := fun W => kind2 W
  CG := fun W => ground2 W
  gh := gh2
theorem kd3 : KD 3 gr3 32 4 7237005577332262213973186563042995786902308146886443998308627866733439352833 18446744073709551615 7237005577332262213973186563042971049735362462343904064828166006911539347441 7237005577332262213973055834329441520127728155767444907515600161428691746049 5880067031582463048853214082472434173487683750925480045240918195860869414465 4 14474011154664524427946373126085991573804616293772887996617255733466878705667 6148914691236517205 14474011154664524427946373126085966836637670609230348063136793873644978700267 14474011154664524427946242397372833101701167255334527841511617785270253517891 11458592164109415172124212058151410038875124957716978240262064368612367837670 where
  hS := by omega
  hS0 := by decide
  fl := fs3
  fl2 := fe3
  m21 := by decide +kernel
  sz := by decide +kernel
  wd := by decide +kernel
  wd2 := by decide +kernel
  lq := Nat.le_trans (len_lt (k := 40) (by decide +kernel)) (by omega)
  lp := Nat.le_trans (len_lt (k := 40) (by decide +kernel)) (by omega)
  hG := rfl
  hi := size70
  h1 := by kernel_rfl
  K9 := fun W => kind3 W
  CG := fun W => ground3 W
  gh := gh3
end Go.Proofs.YtlimogamjgehjaaGreat
