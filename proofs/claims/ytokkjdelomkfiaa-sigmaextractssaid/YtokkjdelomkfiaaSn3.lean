/- Extract and ExtractAny: the program's answer and the document's are the same. -/
import Derived.Test.YtokkjdelomkfiaaSm7
import Derived.Test.YtokkjdelomkfiaaSn2
set_option linter.unusedSimpArgs false
set_option linter.unusedVariables false
set_option maxRecDepth 100000
namespace Go.Proofs.Ytokkjdelomkfiaa
open Go.RowKit Go.Deep Go.PlainAid

/-- What a function answers of two disjunctions' proofs. -/
def Ans (f : Nat) (z : Int) (xs ys : List ByteArray) (ll mm : List (List ByteArray)) (kk co : Int) (qs : List ByteArray) : Prop := ∀ W a1 c1 a2 c2 b1 d1 b2 d2, SL W a1 xs → SLL W a2 ll → SL W b1 ys → SLL W b2 mm →
  Calls Try.prog f #[.int .i64 z, .agg #[.slice a1 xs.length c1, .slice a2 ll.length c2], .agg #[.slice b1 ys.length d1, .slice b2 mm.length d2]] W fun e V => (∃ a' c', e = .returned (.tuple #[.int .i64 kk, .slice a' qs.length c', .int .i64 co]) ∧ SL V a' qs) ∧ Below W.heap.size W V
/-- What a function answers of two proofs. -/
def Ans1 (f : Nat) (z : Int) (x y : ByteArray) (l m : List ByteArray) (co : Int) (qs : List ByteArray) : Prop := ∀ W a c b d, SL W a l → SL W b m →
  Calls Try.prog f #[.int .i64 z, .agg #[.string x, .slice a l.length c], .agg #[.string y, .slice b m.length d]] W fun e V => (∃ a' c', e = .returned (.tuple #[.slice a' qs.length c', .int .i64 co]) ∧ SL V a' qs) ∧ Below W.heap.size W V
theorem wp_AG (p : ByteArray → Bool) (xs ys : List ByteArray) (ll mm : List (List ByteArray)) : wpCode p xs ys ll mm = if unl xs ys ll mm = true then 2 else if AG p xs ys ll mm = false then 6 else if decide (xs = ys) = true then 9 else 0 := rfl
theorem one_le {l : List ByteArray} (hl : l.length ≤ 8796093022207) : ∀ i (h : i < [l].length), ([l][i]).length ≤ 8796093022207 := fun i h => by
  have e : i = 0 := by simp at h; omega
  subst e
  exact hl
theorem nil_sl (w : World) (a : Option Addr) : SL w a [] := fun i hi => by cases hi
theorem ans_nil {f : Nat} {args : Array Value} {w : World} {kk co : Int} (h : Calls Try.prog f args w fun e V => e = .returned (.tuple #[.int .i64 kk, .slice none 0 0, .int .i64 co]) ∧ Below w.heap.size w V) :
    Calls Try.prog f args w fun e V => (∃ a' c', e = .returned (.tuple #[.int .i64 kk, .slice a' ([] : List ByteArray).length c', .int .i64 co]) ∧ SL V a' []) ∧ Below w.heap.size w V :=
  h.mono fun e V ⟨he, hb⟩ => ⟨⟨none, 0, he, nil_sl V none⟩, hb⟩
theorem ans1_nil {f : Nat} {args : Array Value} {w : World} {co : Int} (h : Calls Try.prog f args w fun e V => e = .returned (.tuple #[.slice none 0 0, .int .i64 co]) ∧ Below w.heap.size w V) :
    Calls Try.prog f args w fun e V => (∃ a' c', e = .returned (.tuple #[.slice a' ([] : List ByteArray).length c', .int .i64 co]) ∧ SL V a' []) ∧ Below w.heap.size w V :=
  h.mono fun e V ⟨he, hb⟩ => ⟨⟨none, 0, he, nil_sl V none⟩, hb⟩
section
variable {z : Int} {G : Array Value} {S Wd M low one sq Ri Wd2 M2 low2 one2 sq2 Ri2 : Nat}
variable {xs ys : List ByteArray} {ll mm : List (List ByteArray)}
theorem any_pair (k : KD z G S Wd M low one sq Ri Wd2 M2 low2 one2 sq2 Ri2) (hx : xs.length ≤ 8796093022207) (hy : ys.length ≤ 8796093022207) (hl : ll.length ≤ 8796093022207) (hm : mm.length ≤ 8796093022207) (hl2 : ∀ i (h : i < ll.length), (ll[i]).length ≤ 8796093022207) (hm2 : ∀ i (h : i < mm.length), (mm[i]).length ≤ 8796093022207) :
    ∃ kk co qs, qs.length ≤ 8796093022207 ∧ Ans 9 z xs ys ll mm kk co qs ∧ Ans 10 z xs ys ll mm kk co qs := by
  by_cases hu : unl xs ys ll mm = true
  · have hc : wpCode (isSc S M) xs ys ll mm = 2 := by rw [wp_AG, if_pos hu]
    refine ⟨0, 2, [], by simp, fun W a1 c1 a2 c2 b1 d1 b2 d2 s1 s2 t1 t2 => ans_nil ?_, fun W a1 c1 a2 c2 b1 d1 b2 d2 s1 s2 t1 t2 => ans_nil ?_⟩
    · have h := p9_wrong k (c1 := c1) (c2 := c2) (d1 := d1) (d2 := d2) hx hy hl hm hl2 hm2 s1 s2 t1 t2 (by rw [hc]; decide)
      rw [hc] at h
      exact h
    · by_cases hf : xs.length = 0 ∨ ys.length ≠ xs.length ∨ ll.length ≠ xs.length ∨ mm.length ≠ xs.length
      · exact ref10_form k hf
      · have e1 : ys.length = xs.length := by omega
        have e2 : ll.length = xs.length := by omega
        have e3 : mm.length = xs.length := by omega
        have h := ref10_odd k (n := xs.length) (c1 := c1) (c2 := c2) (d1 := d1) (d2 := d2) hx (by omega) rfl e1 e2 e3 (Lens.of hl hl2) (Lens.of hm hm2) s1 s2 t1 t2 (by
          unfold unl at hu
          rw [decide_eq_false (by omega)] at hu
          simpa using hu)
        rw [e1, e2, e3]
        exact h
  · have hu' : unl xs ys ll mm = false := by simpa using hu
    have hu2 := hu'
    unfold unl at hu2
    rw [Bool.or_eq_false_iff] at hu2
    have hev : evenB ll mm = true := by simpa using hu2.2
    have hd := of_decide_eq_false hu2.1
    have hlm := evenB_len ll mm hev
    have e1 : ys.length = xs.length := by omega
    have e2 : ll.length = xs.length := by omega
    have e3 : mm.length = xs.length := by omega
    by_cases hA : AG (isSc S M) xs ys ll mm = true
    · by_cases hxy : xs = ys
      · have hc : wpCode (isSc S M) xs ys ll mm = 9 := by
          rw [wp_AG, if_neg hu, if_neg (by rw [hA]; decide), if_pos (decide_eq_true hxy)]
        refine ⟨0, 9, [], by simp, fun W a1 c1 a2 c2 b1 d1 b2 d2 s1 s2 t1 t2 => ans_nil ?_, fun W a1 c1 a2 c2 b1 d1 b2 d2 s1 s2 t1 t2 => ans_nil ?_⟩
        · have h := p9_wrong k (c1 := c1) (c2 := c2) (d1 := d1) (d2 := d2) hx hy hl hm hl2 hm2 s1 s2 t1 t2 (by rw [hc]; decide)
          rw [hc] at h
          exact h
        · have h := ref10_even k (n := xs.length) (c1 := c1) (c2 := c2) (d1 := d1) (d2 := d2) hx (by omega) rfl e1 e2 e3 hl2 hm2 s1 s2 t1 t2 hev (fun e _ => e = .returned (.tuple #[.int .i64 0, .slice none 0 0, .int .i64 9])) (fun q => by rw [hA] at q; cases q) (fun _ _ _ => rfl) (fun _ q hq => absurd hxy (fun e => hq.ne (by subst e; rfl)))
          rw [e1, e2, e3]
          exact h
      · obtain ⟨q, hq⟩ := FD.exists xs ys e1.symm hxy
        have g1 : q < ll.length := by have := hq.lt1; omega
        have g2 : q < mm.length := by have := hq.lt1; omega
        have hc : wpCode (isSc S M) xs ys ll mm = 0 := by
          rw [wp_AG, if_neg hu, if_neg (by rw [hA]; decide), if_neg (by rw [decide_eq_false hxy]; decide)]
        refine ⟨q, 0, exRow S M (xs[q]'hq.lt1) (ys[q]'hq.lt2) ll[q] mm[q], by have := hl2 q g1; unfold exRow; rw [List.length_zipWith]; omega, fun W a1 c1 a2 c2 b1 d1 b2 d2 s1 s2 t1 t2 => p9_good k hx hy hl hm hl2 hm2 s1 s2 t1 t2 hc hA hev hq g1 g2, fun W a1 c1 a2 c2 b1 d1 b2 d2 s1 s2 t1 t2 => ?_⟩
        have h := ref10_even k (n := xs.length) (c1 := c1) (c2 := c2) (d1 := d1) (d2 := d2) hx (by omega) rfl e1 e2 e3 hl2 hm2 s1 s2 t1 t2 hev (fun e V => ∃ a' c', e = .returned (.tuple #[.int .i64 q, .slice a' (exRow S M (xs[q]'hq.lt1) (ys[q]'hq.lt2) ll[q] mm[q]).length c', .int .i64 0]) ∧ SL V a' (exRow S M (xs[q]'hq.lt1) (ys[q]'hq.lt2) ll[q] mm[q])) (fun q => by rw [hA] at q; cases q) (fun _ e => absurd e hxy) (fun _ q' hq' g1' g2' w' a' c' hs => by
          have e : q' = q := by
            rcases Nat.lt_trichotomy q' q with h | h | h
            · exact absurd (hq.at h hq'.lt1 hq'.lt2) hq'.ne
            · exact h
            · exact absurd (hq'.at h hq.lt1 hq.lt2) hq.ne
          subst e
          exact ⟨a', c', rfl, hs⟩)
        rw [e1, e2, e3]
        exact h
    · have hA' : AG (isSc S M) xs ys ll mm = false := by simpa using hA
      have hc : wpCode (isSc S M) xs ys ll mm = 6 := by
        rw [wp_AG, if_neg hu, if_pos hA']
      refine ⟨0, 6, [], by simp, fun W a1 c1 a2 c2 b1 d1 b2 d2 s1 s2 t1 t2 => ans_nil ?_, fun W a1 c1 a2 c2 b1 d1 b2 d2 s1 s2 t1 t2 => ans_nil ?_⟩
      · have h := p9_wrong k (c1 := c1) (c2 := c2) (d1 := d1) (d2 := d2) hx hy hl hm hl2 hm2 s1 s2 t1 t2 (by rw [hc]; decide)
        rw [hc] at h
        exact h
      · have h := ref10_even k (n := xs.length) (c1 := c1) (c2 := c2) (d1 := d1) (d2 := d2) hx (by omega) rfl e1 e2 e3 hl2 hm2 s1 s2 t1 t2 hev (fun e _ => e = .returned (.tuple #[.int .i64 0, .slice none 0 0, .int .i64 6])) (fun _ _ => rfl) (fun q => by rw [hA'] at q; cases q) (fun q => by rw [hA'] at q; cases q)
        rw [e1, e2, e3]
        exact h
variable {x y : ByteArray} {l m : List ByteArray}
theorem six_nil (k : KD z G S Wd M low one sq Ri Wd2 M2 low2 one2 sq2 Ri2) (hl : l.length ≤ 8796093022207) (hml : m.length ≤ 8796093022207) {co : Int} (hc : wpCode (isSc S M) [x] [y] [l] [m] = co) (h0 : co ≠ 0) : Ans1 6 z x y l m co [] := fun W a c b d hs hm => by
  refine extract6 hs hm (fun V a1 c1 a2 c2 b1 d1 b2 d2 hV s1 s2 t1 t2 => ?_)
  have h := p9_wrong k (c1 := c1) (c2 := c2) (d1 := d1) (d2 := d2) (by simp) (by simp) (by simp) (by simp) (one_le hl) (one_le hml) s1 s2 t1 t2 (by rw [hc]; exact h0)
  rw [hc] at h
  exact h.mono fun e V ⟨he, hb⟩ => ⟨⟨0, none, 0, he, nil_sl V none⟩, hb⟩
theorem one_pair (k : KD z G S Wd M low one sq Ri Wd2 M2 low2 one2 sq2 Ri2) (hl : l.length ≤ 8796093022207) (hml : m.length ≤ 8796093022207) :
    ∃ co qs, qs.length ≤ 8796093022207 ∧ Ans1 6 z x y l m co qs ∧ Ans1 7 z x y l m co qs := by
  have ev : evenB [l] [m] = decide (l.length = m.length ∧ 0 < l.length) := by simp [evenB]
  have un : unl [x] [y] [l] [m] = !decide (l.length = m.length ∧ 0 < l.length) := by
    unfold unl
    rw [ev, decide_eq_false (by simp)]
    rfl
  by_cases he : m.length = l.length
  · by_cases h0 : l.length = 0
    · have hc : wpCode (isSc S M) [x] [y] [l] [m] = 2 := by rw [wp_AG, un, decide_eq_false (by omega), Bool.not_false, if_pos rfl]
      exact ⟨2, [], by simp, six_nil k hl hml hc (by decide), fun W a c b d hs hm => ans1_nil (ref7_nil k hl hml hs hm he h0)⟩
    · have hu : ¬ unl [x] [y] [l] [m] = true := by rw [un, decide_eq_true (by omega)]; decide
      have hG : AG (isSc S M) [x] [y] [l] [m] = ((isSc S M x && l.all (isSc S M)) && (isSc S M y && m.all (isSc S M))) := by simp [AG, allP]
      have h6 : AG (isSc S M) [x] [y] [l] [m] = false → wpCode (isSc S M) [x] [y] [l] [m] = 6 := fun h => by
        rw [wp_AG, if_neg hu, if_pos h]
      cases g1 : l.all (isSc S M) with
      | false => exact ⟨6, [], by simp, six_nil k hl hml (h6 (by rw [hG, g1]; simp)) (by decide), fun W a c b d hs hm => ans1_nil (ref7_one k hl hml hs hm he h0 g1)⟩
      | true =>
        cases g2 : m.all (isSc S M) with
        | false => exact ⟨6, [], by simp, six_nil k hl hml (h6 (by rw [hG, g2]; simp)) (by decide), fun W a c b d hs hm => ans1_nil (ref7_two k hl hml hs hm he h0 g1 g2)⟩
        | true =>
          cases g3 : isSc S M x with
          | false => exact ⟨6, [], by simp, six_nil k hl hml (h6 (by rw [hG, g3]; simp)) (by decide), fun W a c b d hs hm => ans1_nil (ref7_thr k hl hml hs hm he h0 g1 g2 g3)⟩
          | true =>
            cases g4 : isSc S M y with
            | false => exact ⟨6, [], by simp, six_nil k hl hml (h6 (by rw [hG, g4]; simp)) (by decide), fun W a c b d hs hm => ans1_nil (ref7_fou k hl hml hs hm he h0 g1 g2 g3 g4)⟩
            | true =>
              have hA : AG (isSc S M) [x] [y] [l] [m] = true := by rw [hG, g1, g2, g3, g4]; rfl
              by_cases hxy : x = y
              · have hc : wpCode (isSc S M) [x] [y] [l] [m] = 9 := by
                  rw [wp_AG, if_neg hu, if_neg (by rw [hA]; decide), if_pos (decide_eq_true (by rw [hxy]))]
                exact ⟨9, [], by simp, six_nil k hl hml hc (by decide), fun W a c b d hs hm => ans1_nil (ref7_same k hl hml hs hm he h0 g1 g2 g3 g4 hxy)⟩
              · have hc : wpCode (isSc S M) [x] [y] [l] [m] = 0 := by
                  rw [wp_AG, if_neg hu, if_neg (by rw [hA]; decide), if_neg (by rw [decide_eq_false (by simpa using hxy)]; decide)]
                refine ⟨0, exRow S M x y l m, by unfold exRow; rw [List.length_zipWith]; omega, fun W a c b d hs hm => ?_, fun W a c b d hs hm => ref7_good k hl hml hs hm he h0 g1 g2 g3 g4 hxy⟩
                refine extract6 hs hm (fun V a1 c1 a2 c2 b1 d1 b2 d2 hV s1 s2 t1 t2 => ?_)
                have hq : FD [x] [y] 0 := ⟨by simp, by simp, rfl, hxy⟩
                have h := p9_good k (c1 := c1) (c2 := c2) (d1 := d1) (d2 := d2) (by simp) (by simp) (by simp) (by simp) (one_le hl) (one_le hml) s1 s2 t1 t2 hc hA (by rw [ev]; exact decide_eq_true (by omega)) hq (by simp) (by simp)
                exact h.mono fun e V ⟨⟨a', c', he, hs⟩, hb⟩ => ⟨⟨_, a', c', he, hs⟩, hb⟩
  · have hc : wpCode (isSc S M) [x] [y] [l] [m] = 2 := by rw [wp_AG, un, decide_eq_false (by omega), Bool.not_false, if_pos rfl]
    exact ⟨2, [], by simp, six_nil k hl hml hc (by decide), fun W a c b d hs hm => ans1_nil (ref7_len k hl hml hs hm he)⟩
end
theorem none_any {z : Int} (z1 : z ≠ 1) (z2 : z ≠ 2) (z3 : z ≠ 3) (xs ys : List ByteArray) (ll mm : List (List ByteArray)) : Ans 9 z xs ys ll mm 0 1 [] ∧ Ans 10 z xs ys ll mm 0 1 [] :=
  ⟨fun W a1 c1 a2 c2 b1 d1 b2 d2 s1 s2 t1 t2 => ans_nil (any9_no (by decide) (groundOf_no z1 z2 z3)), fun W a1 c1 a2 c2 b1 d1 b2 d2 s1 s2 t1 t2 => ans_nil (ref10_none z1 z2 z3)⟩
theorem none_one {z : Int} (z1 : z ≠ 1) (z2 : z ≠ 2) (z3 : z ≠ 3) (x y : ByteArray) (l m : List ByteArray) : Ans1 6 z x y l m 1 [] ∧ Ans1 7 z x y l m 1 [] :=
  ⟨fun W a c b d hs hm => extract6 hs hm (fun V a1 c1 a2 c2 b1 d1 b2 d2 hV s1 s2 t1 t2 => (any9_no (by decide) (groundOf_no z1 z2 z3)).mono fun e V ⟨he, hb⟩ => ⟨⟨0, none, 0, he, nil_sl V none⟩, hb⟩), fun W a c b d hs hm => ans1_nil (ref7_none z1 z2 z3)⟩
/-- Whatever the kind. -/
theorem any_same (z : Int) (xs ys : List ByteArray) (ll mm : List (List ByteArray)) (hx : xs.length ≤ 8796093022207) (hy : ys.length ≤ 8796093022207) (hl : ll.length ≤ 8796093022207) (hm : mm.length ≤ 8796093022207) (hl2 : ∀ i (h : i < ll.length), (ll[i]).length ≤ 8796093022207) (hm2 : ∀ i (h : i < mm.length), (mm[i]).length ≤ 8796093022207) :
    ∃ kk co qs, qs.length ≤ 8796093022207 ∧ Ans 9 z xs ys ll mm kk co qs ∧ Ans 10 z xs ys ll mm kk co qs := by
  by_cases z1 : z = 1
  · subst z1; exact any_pair kd1 hx hy hl hm hl2 hm2
  by_cases z2 : z = 2
  · subst z2; exact any_pair kd2 hx hy hl hm hl2 hm2
  by_cases z3 : z = 3
  · subst z3; exact any_pair kd3 hx hy hl hm hl2 hm2
  exact ⟨0, 1, [], by simp, none_any z1 z2 z3 xs ys ll mm⟩
theorem one_same (z : Int) (x y : ByteArray) (l m : List ByteArray) (hl : l.length ≤ 8796093022207) (hm : m.length ≤ 8796093022207) : ∃ co qs, qs.length ≤ 8796093022207 ∧ Ans1 6 z x y l m co qs ∧ Ans1 7 z x y l m co qs := by
  by_cases z1 : z = 1
  · subst z1; exact one_pair kd1 hl hm
  by_cases z2 : z = 2
  · subst z2; exact one_pair kd2 hl hm
  by_cases z3 : z = 3
  · subst z3; exact one_pair kd3 hl hm
  exact ⟨1, [], by simp, none_one z1 z2 z3 x y l m⟩
end Go.Proofs.Ytokkjdelomkfiaa
