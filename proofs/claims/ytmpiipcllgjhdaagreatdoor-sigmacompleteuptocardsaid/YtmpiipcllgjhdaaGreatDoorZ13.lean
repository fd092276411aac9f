/- What is known of the kinds, and the answers of Add, Sub, Mul, Inv. ExtractAny and Extract. Extract. Texts of numbers; the scalars and the sizes of the kinds. The reference's WrongScalars. -/
import Derived.Test.YtmpiipcllgjhdaaGreatDoorZ10
import Derived.Test.YtmpiipcllgjhdaaGreatDoorZ11
import Derived.Test.YtmpiipcllgjhdaaGreatDoorZ12
import Derived.Test.YtmpiipcllgjhdaaGreatDoorZ06
set_option linter.unusedSimpArgs false
set_option linter.unusedVariables false
set_option maxRecDepth 100000
namespace Go.Proofs.YtmpiipcllgjhdaaGreatDoor
open Go.RowKit Go.Deep Go.PlainAid

/-- All that is known of a kind. -/
structure KD (z : Int) (G : Array Value) (S Wd M low one sq Ri Wd2 M2 low2 one2 sq2 Ri2 : Nat) : Prop where
  hS : S ≤ 32
  hS0 : ((S : Int) == 0) = false
  fl : Fld Wd M low one sq Ri
  fl2 : Fld Wd2 M2 low2 one2 sq2 Ri2
  m21 : M2 = 2 * M + 1
  sz : M ≤ 256 ^ S
  wd : 256 ^ S ≤ BB ^ Wd
  wd2 : 256 ^ S ≤ BB ^ Wd2
  lq : (dg 65536 (M * M)).length ≤ 100000
  lp : (dg 65536 (M2 * M2)).length ≤ 100000
  hG : gz.size = G.size
  hi : (Tryz.prog.info? 111).map (·.size) = some G.size
  h1 : G.all (·.oneCell') = true
  CG : Hid (∀ W, Calls Tryz.prog 62 #[.int .i64 z] W fun e w' => e = .returned (.tuple #[.agg G, .bool true]) ∧ Below W.heap.size W w')
  gh : ∀ W g, IHolds W g 111 G.toList → GH W g S Wd M low one sq Wd2 M2 low2 one2 sq2
section
variable {z : Int} {G : Array Value} {S Wd M low one sq Ri Wd2 M2 low2 one2 sq2 Ri2 : Nat}
theorem KD.m2 (k : KD z G S Wd M low one sq Ri Wd2 M2 low2 one2 sq2 Ri2) : 2 ≤ M := k.fl.m2
theorem KD.big (k : KD z G S Wd M low one sq Ri Wd2 M2 low2 one2 sq2 Ri2) : M < BB ^ 4 := by have := k.fl.big; have := k.fl.m2; omega
theorem scalar_yes (k : KD z G S Wd M low one sq Ri Wd2 M2 low2 one2 sq2 Ri2) {w : World} {g : Nat} (F : GH w g S Wd M low one sq Wd2 M2 low2 one2 sq2) {s : ByteArray} (h : isSc S M s = true) :
    Calls Tryz.prog 32 #[.pointer (some ⟨g, 0, none⟩), .string s] w fun e w' => e = .returned (.tuple #[A4 (numS s), .int .i64 0]) ∧ Below w.heap.size w w' := by
  have q := scalarA F s k.hS k.big
  rw [h, if_pos rfl, if_pos rfl] at q
  exact q
theorem isSc_lt {S M : Nat} {s : ByteArray} (h : isSc S M s = true) : numS s < M := (of_decide_eq_true h).2
theorem isSc_size {S M : Nat} {s : ByteArray} (h : isSc S M s = true) : s.size = S := (of_decide_eq_true h).1
/-! The program's answers. -/
theorem subF_mod {M a b : Nat} (ha : a < M) (hb : b < M) : subF M a b = (a + M - b) % M := by
  unfold subF
  split
  · rw [Nat.mod_eq_of_lt (by omega)]
  · rw [show a + M - b = (a - b) + M by omega, Nat.add_mod_right, Nat.mod_eq_of_lt (by omega)]
theorem sub_yes (k : KD z G S Wd M low one sq Ri Wd2 M2 low2 one2 sq2 Ri2) (w : World) {a b : ByteArray} (h : isSc S M a = true) (h' : isSc S M b = true) :
    Calls Tryz.prog 100 #[.int .i64 z, .string a, .string b] w fun e w' => e = .returned (.tuple #[.string ⟨(beB S ((numS a + M - numS b) % M)).toArray⟩, .int .i64 0]) ∧ Below w.heap.size w w' := by
  have ha := isSc_lt h
  have hb' := isSc_lt h'
  have hm := k.m2
  exact sub_face (reckon_any (fun W r1 jr hb => withTwo_any (fun W2 q1 q2 q3 k1 k2 k3 hb2 => withOne_any (fun W3 p1 p2 p3 j1 j2 j3 hb3 => on48_88 k.hG k.hi k.h1 k.CG (fun W4 g hI hb4 =>
    clos88_59_96 (j1.of_below hb4) (j2.of_below hb4) (j3.of_below hb4) (fun W5 hb5 => scalar_yes k ((k.gh W4 g hI).of_below hb5) h)
      (fun W5 hb5 => clos96_59_91 (((k1.of_below hb3).of_below hb4).of_below hb5) (((k2.of_below hb3).of_below hb4).of_below hb5) (((k3.of_below hb3).of_below hb4).of_below hb5)
        (fun W6 hb6 => scalar_yes k (((k.gh W4 g hI).of_below hb5).of_below hb6) h')
        (fun W6 hb6 => clos91_71 (((((jr.of_below hb2).of_below hb3).of_below hb4).of_below hb5).of_below hb6)
          (fun W7 hb7 => by have q := fminusA ((((k.gh W4 g hI).of_below hb5).of_below hb6).of_below hb7).fs ha hb' k.fl.big; rw [subF_mod ha hb'] at q; exact q)
          (fun W7 hb7 => toldA ((((k.gh W4 g hI).of_below hb5).of_below hb6).of_below hb7).c k.hS (Nat.lt_trans (Nat.mod_lt _ (by omega)) k.big)))))))))
theorem mul_yes (k : KD z G S Wd M low one sq Ri Wd2 M2 low2 one2 sq2 Ri2) (w : World) {a b : ByteArray} (h : isSc S M a = true) (h' : isSc S M b = true) :
    Calls Tryz.prog 124 #[.int .i64 z, .string a, .string b] w fun e w' => e = .returned (.tuple #[.string ⟨(beB S (numS a * numS b % M)).toArray⟩, .int .i64 0]) ∧ Below w.heap.size w w' := by
  have ha := isSc_lt h
  have hb' := isSc_lt h'
  have hm := k.m2
  exact mul_face (reckon_any (fun W r1 jr hb => withTwo_any (fun W2 q1 q2 q3 k1 k2 k3 hb2 => withOne_any (fun W3 p1 p2 p3 j1 j2 j3 hb3 => on48_88 k.hG k.hi k.h1 k.CG (fun W4 g hI hb4 =>
    clos88_59_96 (j1.of_below hb4) (j2.of_below hb4) (j3.of_below hb4) (fun W5 hb5 => scalar_yes k ((k.gh W4 g hI).of_below hb5) h)
      (fun W5 hb5 => clos96_59_91 (((k1.of_below hb3).of_below hb4).of_below hb5) (((k2.of_below hb3).of_below hb4).of_below hb5) (((k3.of_below hb3).of_below hb4).of_below hb5)
        (fun W6 hb6 => scalar_yes k (((k.gh W4 g hI).of_below hb5).of_below hb6) h')
        (fun W6 hb6 => clos91_72 (((((jr.of_below hb2).of_below hb3).of_below hb4).of_below hb5).of_below hb6)
          (fun W7 hb7 => ftimesA ((((k.gh W4 g hI).of_below hb5).of_below hb6).of_below hb7).fs k.fl (k.fl.in_words ha) hb')
          (fun W7 hb7 => toldA ((((k.gh W4 g hI).of_below hb5).of_below hb6).of_below hb7).c k.hS (Nat.lt_trans (Nat.mod_lt _ (by omega)) k.big)))))))))
/-! The reference's. -/
end
theorem kd1 : KD 1 gr1 2 1 641 28778071877862015 1 1 1 1 1283 690135397925220949 989 475 48 where
  hS := by omega
  hS0 := by decide
  fl := fs1
  fl2 := fe1
  m21 := by decide +kernel
  sz := by decide +kernel
  wd := by decide +kernel
  wd2 := by decide +kernel
  lq := Nat.le_trans (len_lt (k := 40) (by decide +kernel)) (by omega)
  lp := Nat.le_trans (len_lt (k := 40) (by decide +kernel)) (by omega)
  hG := rfl
  hi := size70
  h1 := by kernel_rfl
  CG := fun W => ground1 W
  gh := gh1
theorem kd2 : KD 2 gr2 8 1 576465431670292481 14411523486952456191 576315691930484705 164727685076202836 450363764723817667 1 1152930863340584963 2177741659672237397 1152781123600777171 169519337302233854 136109958580553132 where
  hS := by omega
  hS0 := by decide
  fl := fs2
  fl2 := fe2
  m21 := by decide +kernel
  sz := by decide +kernel
  wd := by decide +kernel
  wd2 := by decide +kernel
  lq := Nat.le_trans (len_lt (k := 40) (by decide +kernel)) (by omega)
  lp := Nat.le_trans (len_lt (k := 40) (by decide +kernel)) (by omega)
  hG := rfl
  hi := size70
  h1 := by kernel_rfl
  CG := fun W => ground2 W
  gh := gh2
theorem kd3 : KD 3 gr3 32 4 7237005577332262213973186563042995786902308146886443998308627866733439352833 18446744073709551615 7237005577332262213973186563042971049735362462343904064828166006911539347441 7237005577332262213973055834329441520127728155767444907515600161428691746049 5880067031582463048853214082472434173487683750925480045240918195860869414465 4 14474011154664524427946373126085991573804616293772887996617255733466878705667 6148914691236517205 14474011154664524427946373126085966836637670609230348063136793873644978700267 14474011154664524427946242397372833101701167255334527841511617785270253517891 11458592164109415172124212058151410038875124957716978240262064368612367837670 where
  hS := by omega
  hS0 := by decide
  fl := fs3
  fl2 := fe3
  m21 := by decide +kernel
  sz := by decide +kernel
  wd := by decide +kernel
  wd2 := by decide +kernel
  lq := Nat.le_trans (len_lt (k := 40) (by decide +kernel)) (by omega)
  lp := Nat.le_trans (len_lt (k := 40) (by decide +kernel)) (by omega)
  hG := rfl
  hi := size70
  h1 := by kernel_rfl
  CG := fun W => ground3 W
  gh := gh3
end Go.Proofs.YtmpiipcllgjhdaaGreatDoor
namespace Go.Proofs.YtmpiipcllgjhdaaGreatDoor
open Go.RowKit Go.Deep Go.PlainAid

section
variable {w : World} {x1 x2 y1 y2 : Value} {z : Int}
end
end Go.Proofs.YtmpiipcllgjhdaaGreatDoor
namespace Go.Proofs.YtmpiipcllgjhdaaGreatDoor
open Go.RowKit Go.Deep Go.PlainAid

end Go.Proofs.YtmpiipcllgjhdaaGreatDoor
namespace Go.Proofs.YtmpiipcllgjhdaaGreatDoor
open Go.RowKit Go.Deep Go.PlainAid

theorem beV_beB (n : Nat) : ∀ k, beV (beB k n) = n % 256 ^ k
  | 0 => by simp [beB, beV, Nat.mod_one]
  | k + 1 => by
    rw [beB, beV, beV_beB n k, beB_length, Nat.mod_pow_succ, UInt8.toNat_ofNat']
    have : n / 256 ^ k % 256 % 2 ^ 8 = n / 256 ^ k % 256 := Nat.mod_eq_of_lt (by omega)
    rw [this, Nat.mul_comm]
    omega
theorem beB_add (n : Nat) : ∀ (k c : Nat), beB k (n + 256 ^ k * c) = beB k n
  | 0, _ => rfl
  | k + 1, c => by
    have e : n + 256 ^ (k + 1) * c = n + 256 ^ k * (256 * c) := by rw [Nat.pow_succ, Nat.mul_assoc]
    rw [e, beB, beB, beB_add n k, Nat.add_mul_div_left _ _ (Nat.pow_pos (by omega)), Nat.add_mul_mod_self_left]
theorem beB_beV : ∀ l : List UInt8, beB l.length (beV l) = l
  | [] => rfl
  | c :: l => by
    have hl := beV_lt l
    rw [List.length_cons, beB, beV]
    have h1 : (c.toNat * 256 ^ l.length + beV l) / 256 ^ l.length % 256 = c.toNat := by
      rw [Nat.add_comm, Nat.add_mul_div_right _ _ (Nat.pow_pos (by omega)), Nat.div_eq_of_lt hl, Nat.zero_add]
      exact Nat.mod_eq_of_lt (UInt8.toNat_lt c)
    rw [h1]
    have h2 : beB l.length (c.toNat * 256 ^ l.length + beV l) = l := by
      rw [Nat.add_comm, Nat.mul_comm, beB_add]
      exact beB_beV l
    rw [h2]
    congr 1
    exact UInt8.ofNat_toNat
/-- The text of a number in S bytes. -/
def TX (S n : Nat) : ByteArray := ⟨(beB S n).toArray⟩
theorem numS_TX {S n : Nat} (h : n < 256 ^ S) : numS (TX S n) = n := by
  unfold numS TX
  rw [List.toList_toArray, beV_beB, Nat.mod_eq_of_lt h]
theorem size_TX (S n : Nat) : (TX S n).size = S := by
  show (beB S n).toArray.size = S
  rw [List.size_toArray, beB_length]
theorem TX_numS {S : Nat} {s : ByteArray} (h : s.size = S) : TX S (numS s) = s := by
  unfold TX numS
  have e : S = s.data.toList.length := by rw [← h]; rfl
  rw [e, beB_beV]
theorem isSc_TX {S M n : Nat} (h : n < M) (hM : M ≤ 256 ^ S) : isSc S M (TX S n) = true := decide_eq_true ⟨size_TX S n, by rw [numS_TX (Nat.lt_of_lt_of_le h hM)]; exact h⟩
section
variable {z : Int} {G : Array Value} {S Wd M low one sq Ri Wd2 M2 low2 one2 sq2 Ri2 : Nat}
theorem scalar13 (k : KD z G S Wd M low one sq Ri Wd2 M2 low2 one2 sq2 Ri2) (s : ByteArray) (W : World) : Calls Tryz.prog 14 #[.int .i64 z, .string s] W fun e w' => e = .returned (.bool (isSc S M s)) ∧ Below W.heap.size W w' :=
  scalar_face (c := if isSc S M s then 0 else 6) (by cases isSc S M s <;> rfl) (fun W cp hc => on57_58 hc k.hG k.hi k.h1 k.CG (fun W g hI hc => clos58 hc (fun W' hb => scalarA ((k.gh W g hI).of_below hb) s k.hS k.big)))
theorem noScalar (k : KD z G S Wd M low one sq Ri Wd2 M2 low2 one2 sq2 Ri2) (s : ByteArray) (W : World) : Calls Tryz.prog 50 #[.agg #[.int .i64 z], .string s] W fun e w' => e = .returned (.bool (!isSc S M s)) ∧ Below W.heap.size W w' := noScalar44 (fun W => scalar13 k s W)
theorem groundOf_yes (k : KD z G S Wd M low one sq Ri Wd2 M2 low2 one2 sq2 Ri2) (W : World) : Calls Tryz.prog 39 #[.int .i64 z] W fun e w' => e = .returned (.tuple #[.agg #[.int .i64 z], .int .i64 0]) ∧ Below W.heap.size W w' :=
  groundOf30 (s := (S : Int)) (fun W => sizes_call (on46_ok k.hG k.hi k.h1 k.CG (fun W g hI => sizes_any (S := S) (k.gh W g hI).c)))
end
end Go.Proofs.YtmpiipcllgjhdaaGreatDoor
namespace Go.Proofs.YtmpiipcllgjhdaaGreatDoor
open Go.RowKit Go.Deep Go.PlainAid

end Go.Proofs.YtmpiipcllgjhdaaGreatDoor
