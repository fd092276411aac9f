/- Back and Holds of whatever set. -/
import Derived.Test.YtfbceknafmkipaaGreatDa
import Derived.Test.YtfbceknafmkipaaGreatDc
import Derived.Test.YtfbceknafmkipaaGreatCi
set_option linter.unusedSimpArgs false
set_option linter.unusedVariables false
set_option maxRecDepth 100000
namespace Go.Proofs.YtfbceknafmkipaaGreat
open Go.RowKit Go.Deep Go.PlainAid

section
variable {z : Int} {G : Array Value} {S Wd M low one sq Ri Wd2 M2 low2 one2 sq2 Ri2 : Nat}
theorem el_EX {S M M2 : Nat} (h : PK S M M2) {b : ByteArray} (hb : isEl S M b = true) : EX S M M2 (numS b) = b := by
  have := h.e2
  have := isEl_le hb
  unfold EX E
  rw [Nat.mod_eq_of_lt (by omega), sgn_low (isEl_le hb), TX_numS (isEl_size hb)]
theorem el_nd {S M M2 : Nat} (h : PK S M M2) {b : ByteArray} (hb : isEl S M b = true) : ¬ M2 ∣ numS b := fun hd => by
  have h1 := Nat.le_of_dvd (Nat.pos_of_ne_zero (isEl_pos hb)) hd
  have := isEl_le hb
  have := h.e2
  omega
/-- What Back gives: every base to the answer, times its image to the challenge's opposite. -/
def bkG (S M M2 less : Nat) (l : List Cl) (m : List ByteArray) : List (List ByteArray) := List.zipWith (fun t s => List.zipWith (fun b i => EX S M M2 (numS b ^ numS s * numS i ^ less)) t.1 t.2) l m
/-- What Firsts gives. -/
def fsG (S M M2 : Nat) (l : List Cl) (m : List ByteArray) : List (List ByteArray) := List.zipWith (fun t s => t.1.map fun b => EX S M M2 (numS b ^ numS s)) l m
theorem SETG (k : KD z G S Wd M low one sq Ri Wd2 M2 low2 one2 sq2 Ri2) {l : List Cl} (ok : OkC (isEl S M) l) {w : World} {a : Option Addr} {c : Nat} (hs : CM w a l) (W : World) (hB : Below w.heap.size w W) :
    Calls Tryz.prog 14 #[.int .i64 z, .slice a l.length c] W fun e w' => e = .returned (.tuple #[.agg #[.int .i64 z, .slice a l.length c], .int .i64 0]) ∧ Below W.heap.size W w' :=
  setOf42 (fun V => groundOf_yes k V) (fun V hV => set83 ok ((hs.of_below hB).of_below hV) (fun s X => noElem133 (fun Y => memb_call k Y s)))
theorem BCKG (k : KD z G S Wd M low one sq Ri Wd2 M2 low2 one2 sq2 Ri2) (h : PK S M M2) {ch : Nat} {l : List Cl} (ok : OkC (isEl S M) l) (hch : ch < M) {w : World} {a b : Option Addr} {c d : Nat} {m : List ByteArray} (hs : CM w a l) (hm : SL w b m) (hml : m.length = l.length) (hsc : m.all (isSc S M) = true) :
    Calls Tryz.prog 10 #[.int .i64 z, .slice a l.length c, .string (TX S ch), .slice b l.length d] w fun e w' => (∃ a' c', e = .returned (.tuple #[.slice a' l.length c', .int .i64 0]) ∧ SLL w' a' (bkG S M M2 ((0 + M - ch) % M) l m)) ∧ Below w.heap.size w w' := by
  have h64 := ok.most
  have m1 := h.m1
  have l9 : (0 + M - ch) % M < M := Nat.mod_lt _ (by omega)
  refine back16_ok (SETG k ok hs) (fun W hW => WRO k hml h64 hm hsc W hW) (fun W => by have q := noScalar k (TX S ch) W; rw [k.sc hch] at q; exact q) (fun W hW => ?_)
  refine back45_any (fun V => zero85 (fun X => zero_call k X)) (fun V => minus68 (fun X => SUB k (by omega) hch X)) (fun V pb hV hI hP => ?_)
  generalize (0 + M - ch) % M = less at *
  have q := both86_87 (w := V) (c := c) (d := d) (g := W.heap.size) (p := pb) (q := bkG S M M2 less l m) h64 hml (by simp [bkG]; omega) ((hs.of_below hW).of_below hV) ((hm.of_below hW).of_below hV) (fun i h1 h2 h3 a1 c1 a2 c2 X hX s1 s2 => ?_)
  · rw [hml] at q
    exact q
  · have hsi : isSc S M m[i] = true := List.all_eq_true.1 hsc _ (List.getElem_mem h2)
    have e2 : (bkG S M M2 less l m)[i] = List.zipWith (fun b y => EX S M M2 (numS b ^ numS m[i] * numS y ^ less)) (l[i]).1 (l[i]).2 := by simp [bkG]
    have f := ok.few i h1
    have el := ok.el i h1
    rw [e2]
    have hx := isSc_TX' hsi
    have x9 := isSc_lt hsi
    generalize m[i] = s at *
    generalize l[i] = t at *
    have hzl : (List.zipWith (fun b y => EX S M M2 (numS b ^ numS s * numS y ^ less)) t.1 t.2).length = t.1.length := by simp; omega
    rw [hzl]
    refine clos87 (w := X) (z := z) (g := W.heap.size) (p := pb) (a1 := a1) (a2 := a2) (c1 := c1) (c2 := c2) (bs := t.1) (ms := t.2) (q := List.zipWith (fun b y => EX S M M2 (numS b ^ numS s * numS y ^ less)) t.1 t.2) (t := s) (u := TX S less) f.1 f.2.2 (by simp; omega) s1 s2 (cell_keep (hI.cell 0 (by simp)) hX) (cell_keep (hP.cell 0 (by simp)) hX) (fun j j1 j2 j3 Y => ?_)
    have eb : isEl S M t.1[j] = true := List.all_eq_true.1 el.1 _ (List.getElem_mem j1)
    have ei : isEl S M t.2[j] = true := List.all_eq_true.1 el.2 _ (List.getElem_mem j2)
    have pp := fun V b1 b2 => PRO k h (x := numS t.1[j]) (y := numS t.2[j]) (a := numS s) (b := less) (el_nd h eb) (el_nd h ei) x9 l9 V b1 b2
    rw [← hx, el_EX h eb, el_EX h ei] at pp
    rw [List.getElem_zipWith]
    exact powers89 pp
theorem FIRG (k : KD z G S Wd M low one sq Ri Wd2 M2 low2 one2 sq2 Ri2) (h : PK S M M2) {l : List Cl} (ok : OkC (isEl S M) l) {w : World} {a b : Option Addr} {c d : Nat} {m : List ByteArray} (hs : CM w a l) (hm : SL w b m) (hml : m.length = l.length) (hsc : m.all (isSc S M) = true) (W : World) (hW : Below w.heap.size w W) :
    Calls Tryz.prog 21 #[.agg #[.int .i64 z, .slice a l.length c], .slice b l.length d] W fun e w' => (∃ a' c', e = .returned (.slice a' l.length c') ∧ SLL w' a' (fsG S M M2 l m)) ∧ Below W.heap.size W w' := by
  have h64 := ok.most
  refine firsts46_any (fun V hV hI => ?_)
  have q := both86_90 (w := V) (c := c) (d := d) (g := W.heap.size) (q := fsG S M M2 l m) h64 hml (by simp [fsG]; omega) ((hs.of_below hW).of_below hV) ((hm.of_below hW).of_below hV) (fun i h1 h2 h3 a1 c1 a2 c2 X hX s1 s2 => ?_)
  · rw [hml] at q
    exact q
  · have hsi : isSc S M m[i] = true := List.all_eq_true.1 hsc _ (List.getElem_mem h2)
    have e2 : (fsG S M M2 l m)[i] = (l[i]).1.map fun b => EX S M M2 (numS b ^ numS m[i]) := by simp [fsG]
    have f := ok.few i h1
    have el := ok.el i h1
    rw [e2]
    have hx := isSc_TX' hsi
    have x9 := isSc_lt hsi
    generalize m[i] = s at *
    generalize l[i] = t at *
    rw [List.length_map]
    have q := clos90 (w := X) (z := z) (g := W.heap.size) (a1 := a1) (a2 := a2) (c1 := c1) (c2 := c2) (n2 := t.2.length) (bs := t.1) (q := t.1.map fun b => EX S M M2 (numS b ^ numS s)) (t := s) f.1 (by simp) s1 (cell_keep (hI.cell 0 (by simp)) hX) (fun j j1 j3 Y => ?_)
    · exact q
    · have eb : isEl S M t.1[j] = true := List.all_eq_true.1 el.1 _ (List.getElem_mem j1)
      have pp := fun V => POW k h (x := numS t.1[j]) (t := numS s) (el_nd h eb) x9 V
      rw [← hx, el_EX h eb] at pp
      rw [List.getElem_map]
      exact power92 pp
/-- Holds of a set and as many scalars. -/
theorem HOLG (k : KD z G S Wd M low one sq Ri Wd2 M2 low2 one2 sq2 Ri2) (h : PK S M M2) {l : List Cl} (ok : OkC (isEl S M) l) {w : World} {a b : Option Addr} {c d : Nat} {m : List ByteArray} (hs : CM w a l) (hm : SL w b m) (hml : m.length = l.length) (hsc : m.all (isSc S M) = true) :
    Calls Tryz.prog 5 #[.int .i64 z, .slice a l.length c, .slice b l.length d] w fun e w' => e = .returned (.bool (decide (l.map Prod.snd = fsG S M M2 l m))) ∧ Below w.heap.size w w' := by
  refine holds8 (k := if decide (l.map Prod.snd = fsG S M M2 l m) then 0 else 8) (by cases decide (l.map Prod.snd = fsG S M M2 l m) <;> rfl) (SETG k ok hs) (fun W hW => ?_)
  refine wrongSecrets17 (fun V hV => WRO k hml ok.most (hm.of_below hW) hsc V hV) (fun V hV => ?_)
  refine holds36 (q := fsG S M M2 l m) (fun X hX => FIRG k h ok ((hs.of_below hW).of_below hV) ((hm.of_below hW).of_below hV) hml hsc X hX) (fun X a' c' hX hq => ?_)
  exact equal56 ok.most (fun i hi => by have := ok.few i hi; omega) (by simp [fsG]; omega) (((hs.of_below hW).of_below hV).of_below hX) hq
end
end Go.Proofs.YtfbceknafmkipaaGreat
