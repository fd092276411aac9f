/- What is known of the kinds, and the answers of Add, Sub, Mul, Inv. -/
import Derived.Test.YtohpbclofcflaaaGreatKnowsAll
import Derived.Test.YtohpbclofcflaaaGreatFace
import Derived.Test.YtohpbclofcflaaaGreatInv
import Derived.Test.YtohpbclofcflaaaGreatPower
set_option linter.unusedSimpArgs false
set_option linter.unusedVariables false
namespace Go.Proofs.YtohpbclofcflaaaGreat
open Go.RowKit Go.Deep Go.PlainAid

/-- All that is known of a kind. -/
structure KD (z : Int) (G : Array Value) (S Wd M low one sq Ri Wd2 M2 low2 one2 sq2 Ri2 : Nat) : Prop where
  hS : S ≤ 32
  hS0 : ((S : Int) == 0) = false
  fl : Fld Wd M low one sq Ri
  fl2 : Fld Wd2 M2 low2 one2 sq2 Ri2
  m21 : M2 = 2 * M + 1
  sz : M ≤ 256 ^ S
  wd : 256 ^ S ≤ BB ^ Wd
  wd2 : 256 ^ S ≤ BB ^ Wd2
  lq : (dg 65536 (M * M)).length ≤ 100000
  lp : (dg 65536 (M2 * M2)).length ≤ 100000
  hG : gz.size = G.size
  hi : (Tryz.prog.info? 97).map (·.size) = some G.size
  h1 : G.all (·.oneCell') = true
  K9 : ∀ W, Calls Tryz.prog 16 #[.int .i64 z] W fun e w' => (∃ u1 u2, e = .returned (.agg #[.int .i64 (S : Int), u1, u2]) ∧ NumV w' 65536 M u1 ∧ NumV w' 65536 M2 u2) ∧ Below W.heap.size W w'
  CG : Hid (∀ W, Calls Tryz.prog 73 #[.int .i64 z] W fun e w' => e = .returned (.tuple #[.agg G, .bool true]) ∧ Below W.heap.size W w')
  gh : ∀ W g, IHolds W g 97 G.toList → GH W g S Wd M low one sq Wd2 M2 low2 one2 sq2
section
variable {z : Int} {G : Array Value} {S Wd M low one sq Ri Wd2 M2 low2 one2 sq2 Ri2 : Nat}
theorem KD.m2 (k : KD z G S Wd M low one sq Ri Wd2 M2 low2 one2 sq2 Ri2) : 2 ≤ M := k.fl.m2
theorem KD.big (k : KD z G S Wd M low one sq Ri Wd2 M2 low2 one2 sq2 Ri2) : M < BB ^ 4 := by have := k.fl.big; have := k.fl.m2; omega
theorem KD.mm (k : KD z G S Wd M low one sq Ri Wd2 M2 low2 one2 sq2 Ri2) : M ≤ M * M := Nat.le_mul_of_pos_left M (by have := k.fl.m2; omega)
theorem KD.l5 (k : KD z G S Wd M low one sq Ri Wd2 M2 low2 one2 sq2 Ri2) : (dg 65536 M).length ≤ 100000 := Nat.le_trans (dg_len_mono b16 k.mm) k.lq
theorem KD.l6 (k : KD z G S Wd M low one sq Ri Wd2 M2 low2 one2 sq2 Ri2) : (dg 65536 M).length ≤ 1000000 := by have := k.l5; omega
theorem scalar_yes (k : KD z G S Wd M low one sq Ri Wd2 M2 low2 one2 sq2 Ri2) {w : World} {g : Nat} (F : GH w g S Wd M low one sq Wd2 M2 low2 one2 sq2) {s : ByteArray} (h : isSc S M s = true) :
    Calls Tryz.prog 57 #[.pointer (some ⟨g, 0, none⟩), .string s] w fun e w' => e = .returned (.tuple #[A4 (numS s), .int .i64 0]) ∧ Below w.heap.size w w' := by
  have q := scalarA F s k.hS k.big
  rw [h, if_pos rfl, if_pos rfl] at q
  exact q
theorem scalar_nay (k : KD z G S Wd M low one sq Ri Wd2 M2 low2 one2 sq2 Ri2) {w : World} {g : Nat} (F : GH w g S Wd M low one sq Wd2 M2 low2 one2 sq2) {s : ByteArray} (h : isSc S M s = false) :
    Calls Tryz.prog 57 #[.pointer (some ⟨g, 0, none⟩), .string s] w fun e w' => e = .returned (.tuple #[A4 0, .int .i64 6]) ∧ Below w.heap.size w w' := by
  have q := scalarA F s k.hS k.big
  rw [h, if_neg (by simp), if_neg (by simp)] at q
  exact q
theorem isSc_lt {S M : Nat} {s : ByteArray} (h : isSc S M s = true) : numS s < M := (of_decide_eq_true h).2
theorem isSc_size {S M : Nat} {s : ByteArray} (h : isSc S M s = true) : s.size = S := (of_decide_eq_true h).1
/-! The program's answers. -/
theorem one_nay (k : KD z G S Wd M low one sq Ri Wd2 M2 low2 one2 sq2 Ri2) (w : World) {a : ByteArray} (h : isSc S M a = false) {tn : Nat} {caps : Array Value} :
    Calls Tryz.prog 87 #[.int .i64 z, .func (.func 57) #[] #[], .string a, .func (.func tn) #[] caps] w fun e w' => e = .returned (.tuple #[.string ⟨#[]⟩, .int .i64 6]) ∧ Below w.heap.size w w' :=
  withOne_any (fun W p1 p2 p3 j1 j2 j3 hb => on48_88 k.hG k.hi k.h1 k.CG (fun W2 g hI hb2 => clos88_59_bad rfl (by decide) (j1.of_below hb2) (j2.of_below hb2) (fun W3 hb3 => scalar_nay k ((k.gh W2 g hI).of_below hb3) h)))
theorem one_none {G0 : Array Value} (w : World) {a : ByteArray} (hG : gz.size = G0.size) (hi : (Tryz.prog.info? 97).map (·.size) = some G0.size) (h1 : G0.all (·.oneCell') = true)
    (CG : Hid (∀ W, Calls Tryz.prog 73 #[.int .i64 z] W fun e w' => e = .returned (.tuple #[.agg G0, .bool false]) ∧ Below W.heap.size W w')) {rd tn : Nat} {caps : Array Value} :
    Calls Tryz.prog 87 #[.int .i64 z, .func (.func rd) #[] #[], .string a, .func (.func tn) #[] caps] w fun e w' => e = .returned (.tuple #[.string ⟨#[]⟩, .int .i64 1]) ∧ Below w.heap.size w w' :=
  withOne_any (fun W p1 p2 p3 j1 j2 j3 hb => on48_88_no hG hi h1 CG)
theorem subF_mod {M a b : Nat} (ha : a < M) (hb : b < M) : subF M a b = (a + M - b) % M := by
  unfold subF
  split
  · rw [Nat.mod_eq_of_lt (by omega)]
  · rw [show a + M - b = (a - b) + M by omega, Nat.add_mod_right, Nat.mod_eq_of_lt (by omega)]
theorem read_small {S : Nat} {s : ByteArray} (h : s.size = S) (hS : S ≤ 32) (W : World) : Calls Tryz.prog 20 #[.string s] W fun e w' => (∃ v, e = .returned v ∧ NumV w' 65536 (numS s) v) ∧ Below W.heap.size W w' := read_any W s (by omega)
end
theorem kd1 : KD 1 gr1 2 1 641 28778071877862015 1 1 1 1 1283 690135397925220949 989 475 48 where
  hS := by omega
  hS0 := by decide
  fl := fs1
  fl2 := fe1
  m21 := by decide +kernel
  sz := by decide +kernel
  wd := by decide +kernel
  wd2 := by decide +kernel
  lq := Nat.le_trans (len_lt (k := 40) (by decide +kernel)) (by omega)
  lp := Nat.le_trans (len_lt (k := 40) (by decide +kernel)) (by omega)
  hG := rfl
  hi := size70
  h1 := by kernel_rfl
  K9 := fun W => kind1 W
  CG := fun W => ground1 W
  gh := gh1
theorem kd2 : KD 2 gr2 8 1 576465431670292481 14411523486952456191 576315691930484705 164727685076202836 450363764723817667 1 1152930863340584963 2177741659672237397 1152781123600777171 169519337302233854 136109958580553132 where
  hS := by omega
  hS0 := by decide
  fl := fs2
  fl2 := fe2
  m21 := by decide +kernel
  sz := by decide +kernel
  wd := by decide +kernel
  wd2 := by decide +kernel
  lq := Nat.le_trans (len_lt (k := 40) (by decide +kernel)) (by omega)
  lp := Nat.le_trans (len_lt (k := 40) (by decide +kernel)) (by omega)
  hG := rfl
  hi := size70
  h1 := by kernel_rfl
  K9 := fun W => kind2 W
  CG := fun W => ground2 W
  gh := gh2
theorem kd3 : KD 3 gr3 32 4 7237005577332262213973186563042995786902308146886443998308627866733439352833 18446744073709551615 7237005577332262213973186563042971049735362462343904064828166006911539347441 7237005577332262213973055834329441520127728155767444907515600161428691746049 5880067031582463048853214082472434173487683750925480045240918195860869414465 4 14474011154664524427946373126085991573804616293772887996617255733466878705667 6148914691236517205 14474011154664524427946373126085966836637670609230348063136793873644978700267 14474011154664524427946242397372833101701167255334527841511617785270253517891 11458592164109415172124212058151410038875124957716978240262064368612367837670 where
  hS := by omega
  hS0 := by decide
  fl := fs3
  fl2 := fe3
  m21 := by decide +kernel
  sz := by decide +kernel
  wd := by decide +kernel
  wd2 := by decide +kernel
  lq := Nat.le_trans (len_lt (k := 40) (by decide +kernel)) (by omega)
  lp := Nat.le_trans (len_lt (k := 40) (by decide +kernel)) (by omega)
  hG := rfl
  hi := size70
  h1 := by kernel_rfl
  K9 := fun W => kind3 W
  CG := fun W => ground3 W
  gh := gh3
end Go.Proofs.YtohpbclofcflaaaGreat
