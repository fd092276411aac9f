/- What the program's ExtractAny answers, of a known kind. -/
import Derived.Test.YtokkjdelomkfiaaSm5
set_option linter.unusedSimpArgs false
set_option linter.unusedVariables false
set_option maxRecDepth 100000
namespace Go.Proofs.Ytokkjdelomkfiaa
open Go.RowKit Go.Deep Go.PlainAid

/-- All that two proofs have are scalars. -/
def AG (p : ByteArray → Bool) (xs ys : List ByteArray) (ll mm : List (List ByteArray)) : Bool := allP p xs ll && allP p ys mm
theorem AG_take {p : ByteArray → Bool} {xs ys : List ByteArray} {ll mm : List (List ByteArray)} {i : Nat} (h1 : i < xs.length) (h2 : i < ys.length) (h3 : i < ll.length) (h4 : i < mm.length) (h : AG p (xs.take i) (ys.take i) (ll.take i) (mm.take i) = true) (g1 : (ll[i]).all p = true) (g2 : (mm[i]).all p = true) (g3 : p xs[i] = true) (g4 : p ys[i] = true) :
    AG p (xs.take (i + 1)) (ys.take (i + 1)) (ll.take (i + 1)) (mm.take (i + 1)) = true := by
  unfold AG allP at *
  rw [all_take p h1, all_take p h2, all_take (fun x => x.all p) h3, all_take (fun x => x.all p) h4]
  simp only [Bool.and_eq_true] at *
  exact ⟨⟨⟨h.1.1, g3⟩, ⟨h.1.2, g1⟩⟩, ⟨⟨h.2.1, g4⟩, ⟨h.2.2, g2⟩⟩⟩
theorem AG_at {p : ByteArray → Bool} {xs ys : List ByteArray} {ll mm : List (List ByteArray)} {i : Nat} (h1 : i < xs.length) (h2 : i < ys.length) (h3 : i < ll.length) (h4 : i < mm.length) (h : AG p xs ys ll mm = true) :
    (ll[i]).all p = true ∧ (mm[i]).all p = true ∧ p xs[i] = true ∧ p ys[i] = true := by
  unfold AG allP at h
  simp only [Bool.and_eq_true, List.all_eq_true] at h
  exact ⟨List.all_eq_true.2 (h.1.2 _ (List.getElem_mem h3)), List.all_eq_true.2 (h.2.2 _ (List.getElem_mem h4)), h.1.1 _ (List.getElem_mem h1), h.2.1 _ (List.getElem_mem h2)⟩
/-- Where the lists differ first, as far as is seen. -/
def DF (xs ys : List ByteArray) (i : Nat) (f : Int) : Prop := (f = -1 ∧ xs.take i = ys.take i) ∨ ∃ q : Nat, q < i ∧ FD xs ys q ∧ f = (q : Int)
theorem all_at {p : ByteArray → Bool} {l : List ByteArray} (h : l.all p = true) (i : Nat) (hi : i < l.length) : p l[i] = true := List.all_eq_true.1 h _ (List.getElem_mem hi)
theorem exRow_at {S M : Nat} {x y : ByteArray} {l m : List ByteArray} {i : Nat} (h : i < (exRow S M x y l m).length) (h1 : i < l.length) (h2 : i < m.length) : (exRow S M x y l m)[i] = TX S (((numS x + M - numS y) % M) ^ (M - 2) % M * ((numS l[i] + M - numS m[i]) % M) % M) := List.getElem_zipWith (h := h)
theorem Lens.of {l : List (List ByteArray)} (h : l.length ≤ 8796093022207) (h2 : ∀ i (h : i < l.length), (l[i]).length ≤ 8796093022207) : Lens l := ⟨by omega, fun i hi => by have := h2 i hi; omega⟩
section
variable {z : Int} {G : Array Value} {S Wd M low one sq Ri Wd2 M2 low2 one2 sq2 Ri2 : Nat}
variable {w : World} {a1 a2 b1 b2 : Option Addr} {xs ys : List ByteArray} {ll mm : List (List ByteArray)} {c1 c2 d1 d2 : Nat}
theorem p9_wrong (k : KD z G S Wd M low one sq Ri Wd2 M2 low2 one2 sq2 Ri2) (hx : xs.length ≤ 8796093022207) (hy : ys.length ≤ 8796093022207) (hl : ll.length ≤ 8796093022207) (hm : mm.length ≤ 8796093022207) (hl2 : ∀ i (h : i < ll.length), (ll[i]).length ≤ 8796093022207) (hm2 : ∀ i (h : i < mm.length), (mm[i]).length ≤ 8796093022207)
    (s1 : SL w a1 xs) (s2 : SLL w a2 ll) (t1 : SL w b1 ys) (t2 : SLL w b2 mm) (hc : wpCode (isSc S M) xs ys ll mm ≠ 0) :
    Calls Try.prog 9 #[.int .i64 z, .agg #[.slice a1 xs.length c1, .slice a2 ll.length c2], .agg #[.slice b1 ys.length d1, .slice b2 mm.length d2]] w fun e w' => e = .returned (.tuple #[.int .i64 0, .slice none 0 0, .int .i64 (wpCode (isSc S M) xs ys ll mm)]) ∧ Below w.heap.size w w' :=
  any9_wrong (beq_eq_false_iff_ne.2 hc) (groundOf_yes k) (fun W hW => wrongPair31 (isSc S M) hx hy (Lens.of hl hl2) (Lens.of hm hm2) (s1.of_below hW) (s2.of_below hW) (t1.of_below hW) (t2.of_below hW) (fun s W => noScalar k s W))
theorem dd_ne {x y : ByteArray} (h3 : isSc S M x = true) (h4 : isSc S M y = true) (hne : x ≠ y) : (numS x + M - numS y) % M ≠ 0 := fun h => by
  have hx := isSc_lt h3
  have hy := isSc_lt h4
  apply hne
  apply isSc_inj h3 h4
  by_cases hc : numS y ≤ numS x
  · rw [show numS x + M - numS y = (numS x - numS y) + M by omega, Nat.add_mod_right, Nat.mod_eq_of_lt (by omega)] at h
    omega
  · rw [Nat.mod_eq_of_lt (by omega)] at h
    omega
theorem p9_good (k : KD z G S Wd M low one sq Ri Wd2 M2 low2 one2 sq2 Ri2) (hx : xs.length ≤ 8796093022207) (hy : ys.length ≤ 8796093022207) (hl : ll.length ≤ 8796093022207) (hm : mm.length ≤ 8796093022207) (hl2 : ∀ i (h : i < ll.length), (ll[i]).length ≤ 8796093022207) (hm2 : ∀ i (h : i < mm.length), (mm[i]).length ≤ 8796093022207)
    (s1 : SL w a1 xs) (s2 : SLL w a2 ll) (t1 : SL w b1 ys) (t2 : SLL w b2 mm) (hc : wpCode (isSc S M) xs ys ll mm = 0) (hA : AG (isSc S M) xs ys ll mm = true) (he : evenB ll mm = true) {q : Nat} (hq : FD xs ys q) (g1 : q < ll.length) (g2 : q < mm.length) :
    Calls Try.prog 9 #[.int .i64 z, .agg #[.slice a1 xs.length c1, .slice a2 ll.length c2], .agg #[.slice b1 ys.length d1, .slice b2 mm.length d2]] w fun e w' => (∃ a' c', e = .returned (.tuple #[.int .i64 (q : Int), .slice a' (exRow S M (xs[q]'hq.lt1) (ys[q]'hq.lt2) ll[q] mm[q]).length c', .int .i64 0]) ∧ SL w' a' (exRow S M (xs[q]'hq.lt1) (ys[q]'hq.lt2) ll[q] mm[q])) ∧ Below w.heap.size w w' := by
  have hE := evenB_at ll mm he q g1 g2
  obtain ⟨q1, q2, q3, q4⟩ := AG_at hq.lt1 hq.lt2 g1 g2 hA
  have hm0 := k.m2
  have lt : ∀ n, n % M < 256 ^ S := fun n => Nat.lt_of_lt_of_le (Nat.mod_lt _ (by omega)) k.sz
  have isT : ∀ n, isSc S M (TX S (n % M)) = true := fun n => isSc_TX (Nat.mod_lt _ (by omega)) k.sz
  refine any9_yes (k := q) (groundOf_yes k) (fun W hW => ?_) (fun W hW => place32 hx hy (s1.of_below hW) (t1.of_below hW) hq) (fun W hW => ?_)
  · have h := wrongPair31 (c1 := c1) (c2 := c2) (d1 := d1) (d2 := d2) (isSc S M) hx hy (Lens.of hl hl2) (Lens.of hm hm2) (s1.of_below hW) (s2.of_below hW) (t1.of_below hW) (t2.of_below hW) (fun s W => noScalar k s W)
    rw [hc] at h
    exact h
  · refine extract33 (dd := TX S ((numS (xs[q]'hq.lt1) + M - numS (ys[q]'hq.lt2)) % M)) (part := TX S (((numS (xs[q]'hq.lt1) + M - numS (ys[q]'hq.lt2)) % M) ^ (M - 2) % M)) (qs := List.zipWith (fun s t => TX S ((numS s + M - numS t) % M)) ll[q] mm[q]) hx hy hl hm hq.lt1 hq.lt2 g1 g2 (s1.of_below hW) (s2.of_below hW) (t1.of_below hW) (t2.of_below hW) (hl2 q g1) hE.1.symm ?_ ?_ ?_ ?_ ?_ ?_
    · rw [List.length_zipWith, ← hE.1, Nat.min_self]
    · unfold exRow
      rw [List.length_zipWith, ← hE.1, Nat.min_self]
    · exact fun W => minus68 (fun W => sub_yes k W q3 q4)
    · intro W
      have h := fun W => inv_yes k W (a := TX S ((numS (xs[q]'hq.lt1) + M - numS (ys[q]'hq.lt2)) % M)) (isT _) (by rw [numS_TX (lt _)]; exact dd_ne q3 q4 hq.ne)
      rw [numS_TX (lt _)] at h
      exact inverse67 h
    · intro i h1 h2 h3 W
      rw [List.getElem_zipWith]
      exact minus68 (fun W => sub_yes k W (all_at q1 i h1) (all_at q2 i h2))
    · intro i h1 h2 W
      have l1 : i < (ll[q]).length := by rw [List.length_zipWith] at h1; omega
      have l2 : i < (mm[q]).length := by rw [List.length_zipWith] at h1; omega
      rw [exRow_at h2 l1 l2, List.getElem_zipWith]
      have h := fun W => mul_yes k W (a := TX S ((numS ((ll[q])[i]'(by rw [List.length_zipWith] at h1; omega)) + M - numS ((mm[q])[i]'(by rw [List.length_zipWith] at h1; omega))) % M)) (b := TX S (((numS (xs[q]'hq.lt1) + M - numS (ys[q]'hq.lt2)) % M) ^ (M - 2) % M)) (isT _) (isT _)
      rw [numS_TX (lt _), numS_TX (lt _), Nat.mul_comm] at h
      exact times72 h
end
end Go.Proofs.Ytokkjdelomkfiaa
