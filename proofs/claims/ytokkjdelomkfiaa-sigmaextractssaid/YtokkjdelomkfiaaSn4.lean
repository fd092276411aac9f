/- The law SigmaExtracts, walked. -/
import Derived.Test.YtokkjdelomkfiaaSn3
set_option linter.unusedSimpArgs false
set_option linter.unusedVariables false
set_option maxRecDepth 100000
namespace Go.Proofs.Ytokkjdelomkfiaa
open Go.RowKit Go.Deep Go.PlainAid

set_option maxHeartbeats 2000000 in
theorem law3 {w : World} {z kk co co2 : Int} {x y : ByteArray} {l m xs ys qs qs2 : List ByteArray} {ll mm : List (List ByteArray)} {a b a1 a2 b1 b2 : Option Addr} {c d c1 c2 d1 d2 : Nat}
    (hq : qs.length ≤ 8796093022207) (hq2 : qs2.length ≤ 8796093022207) (A6 : Ans1 6 z x y l m co qs) (A7 : Ans1 7 z x y l m co qs) (A9 : Ans 9 z xs ys ll mm kk co2 qs2) (A10 : Ans 10 z xs ys ll mm kk co2 qs2) (hs : SL w a l) (hm : SL w b m) (s1 : SL w a1 xs) (s2 : SLL w a2 ll) (t1 : SL w b1 ys) (t2 : SLL w b2 mm) :
    Calls Try.prog 3 #[.int .i64 z, .agg #[.string x, .slice a l.length c], .agg #[.string y, .slice b m.length d], .agg #[.slice a1 xs.length c1, .slice a2 ll.length c2], .agg #[.slice b1 ys.length d1, .slice b2 mm.length d2]] w fun e w' => e = .returned (.bool true) ∧ Below w.heap.size w w' := by
  generalize hW : (((w.alloc (.cells #[.string x, .slice a l.length c] 24)).alloc (.cells #[.string y, .slice b m.length d] 24)).alloc (.cells #[.slice a1 xs.length c1, .slice a2 ll.length c2] 27)).alloc (.cells #[.slice b1 ys.length d1, .slice b2 mm.length d2] 27) = W
  have J : Hid (Below w.heap.size w W) := by rw [← hW]; exact ((((Below.refl _ w).alloc (Nat.le_refl _) _).alloc (by simp) _).alloc (by simp; omega) _).alloc (by simp; omega) _
  have I1 : Hid (IHolds W (w.heap.size) 24 [.string x, .slice a l.length c]) := by rw [← hW]; exact (((IHolds.new' w 24 [.string x, .slice a l.length c] rfl).alloc _).alloc _).alloc _
  have I2 : Hid (IHolds W (w.heap.size + 1) 24 [.string y, .slice b m.length d]) := by rw [← hW]; exact ((IHolds.new' (w.alloc _) 24 [.string y, .slice b m.length d] (by simp)).alloc _).alloc _
  have I3 : Hid (IHolds W (w.heap.size + 1 + 1) 27 [.slice a1 xs.length c1, .slice a2 ll.length c2]) := by rw [← hW]; exact (IHolds.new' ((w.alloc _).alloc _) 27 [.slice a1 xs.length c1, .slice a2 ll.length c2] (by simp)).alloc _
  have I4 : Hid (IHolds W (w.heap.size + 1 + 1 + 1) 27 [.slice b1 ys.length d1, .slice b2 mm.length d2]) := by rw [← hW]; exact IHolds.new' (((w.alloc _).alloc _).alloc _) 27 [.slice b1 ys.length d1, .slice b2 mm.length d2] (by simp)
  have KC : Hid (∀ V, Below W.heap.size W V → V.cell? ⟨w.heap.size, 0, none⟩ = some (.string x) ∧ V.cell? ⟨w.heap.size, 1, none⟩ = some (.slice a l.length c) ∧ V.cell? ⟨w.heap.size + 1, 0, none⟩ = some (.string y) ∧ V.cell? ⟨w.heap.size + 1, 1, none⟩ = some (.slice b m.length d) ∧ V.cell? ⟨w.heap.size + 1 + 1, 0, none⟩ = some (.slice a1 xs.length c1) ∧ V.cell? ⟨w.heap.size + 1 + 1, 1, none⟩ = some (.slice a2 ll.length c2) ∧ V.cell? ⟨w.heap.size + 1 + 1 + 1, 0, none⟩ = some (.slice b1 ys.length d1) ∧ V.cell? ⟨w.heap.size + 1 + 1 + 1, 1, none⟩ = some (.slice b2 mm.length d2)) := fun V hV => ⟨cell_keep I1.out.two0 hV, cell_keep I1.out.two1 hV, cell_keep I2.out.two0 hV, cell_keep I2.out.two1 hV, cell_keep I3.out.two0 hV, cell_keep I3.out.two1 hV, cell_keep I4.out.two0 hV, cell_keep I4.out.two1 hV⟩
  have C6 : Hid (∀ V, Below W.heap.size W V → Calls Try.prog 6 #[.int .i64 z, .agg #[.string x, .slice a l.length c], .agg #[.string y, .slice b m.length d]] V fun e V' => (∃ a' c', e = .returned (.tuple #[.slice a' qs.length c', .int .i64 co]) ∧ SL V' a' qs) ∧ Below V.heap.size V V') := fun V hV => A6 V a c b d ((hs.of_below J.out).of_below hV) ((hm.of_below J.out).of_below hV)
  have C7 : Hid (∀ V, Below W.heap.size W V → Calls Try.prog 7 #[.int .i64 z, .agg #[.string x, .slice a l.length c], .agg #[.string y, .slice b m.length d]] V fun e V' => (∃ a' c', e = .returned (.tuple #[.slice a' qs.length c', .int .i64 co]) ∧ SL V' a' qs) ∧ Below V.heap.size V V') := fun V hV => A7 V a c b d ((hs.of_below J.out).of_below hV) ((hm.of_below J.out).of_below hV)
  have C9 : Hid (∀ V, Below W.heap.size W V → Calls Try.prog 9 #[.int .i64 z, .agg #[.slice a1 xs.length c1, .slice a2 ll.length c2], .agg #[.slice b1 ys.length d1, .slice b2 mm.length d2]] V fun e V' => (∃ a' c', e = .returned (.tuple #[.int .i64 kk, .slice a' qs2.length c', .int .i64 co2]) ∧ SL V' a' qs2) ∧ Below V.heap.size V V') := fun V hV => A9 V a1 c1 a2 c2 b1 d1 b2 d2 ((s1.of_below J.out).of_below hV) ((s2.of_below J.out).of_below hV) ((t1.of_below J.out).of_below hV) ((t2.of_below J.out).of_below hV)
  have C10 : Hid (∀ V, Below W.heap.size W V → Calls Try.prog 10 #[.int .i64 z, .agg #[.slice a1 xs.length c1, .slice a2 ll.length c2], .agg #[.slice b1 ys.length d1, .slice b2 mm.length d2]] V fun e V' => (∃ a' c', e = .returned (.tuple #[.int .i64 kk, .slice a' qs2.length c', .int .i64 co2]) ∧ SL V' a' qs2) ∧ Below V.heap.size V V') := fun V hV => A10 V a1 c1 a2 c2 b1 d1 b2 d2 ((s1.of_below J.out).of_below hV) ((s2.of_below J.out).of_below hV) ((t1.of_below J.out).of_below hV) ((t2.of_below J.out).of_below hV)
  have C8 : Hid (∀ V a' c' b' d', SL V a' qs → SL V b' qs → Calls Try.prog 8 #[.slice a' qs.length c', .slice b' qs.length d'] V fun e V' => e = .returned (.bool true) ∧ Below V.heap.size V V') := fun V a' c' b' d' h1 h2 => by
    have h := same8 (c := c') (d := d') (by omega) h1 h2
    rw [decide_eq_true rfl] at h
    exact h
  have C8b : Hid (∀ V a' c' b' d', SL V a' qs2 → SL V b' qs2 → Calls Try.prog 8 #[.slice a' qs2.length c', .slice b' qs2.length d'] V fun e V' => e = .returned (.bool true) ∧ Below V.heap.size V V') := fun V a' c' b' d' h1 h2 => by
    have h := same8 (c := c') (d := d') (by omega) h1 h2
    rw [decide_eq_true rfl] at h
    exact h
  clear A6 A7 A9 A10 hs hm s1 s2 t1 t2 I1 I2 I3 I4
  obtain ⟨y0, y1, y2, y3, _, _, _, _⟩ := KC.out W (Below.refl _ _)
  have hk0 : (kk == kk) = true := beq_self_eq_true _
  have hc0 : (co == co) = true := beq_self_eq_true _
  have hc1 : (co != co) = false := by rw [bne, hc0]; rfl
  have hc2 : (co2 == co2) = true := beq_self_eq_true _
  go_enter Try.func3, Try.ntmps3
  go_wp2_with (first
    | (go_at_call 6; refine (C6.out _ (Below.refl _ _)).mono ?_; rintro e w1 ⟨⟨a6, c6, rfl, hs6⟩, hB1⟩; have B1 : Hid (Below W.heap.size W w1) := hB1; have S6 : Hid (SL w1 a6 qs) := hs6; clear hs6 hB1 C6 y0 y1 y2 y3 hW; obtain ⟨y0, y1, y2, y3, _, _, _, _⟩ := KC.out w1 B1.out)
    | (go_at_call 7; refine (C7.out _ B1.out).mono ?_; rintro e w2 ⟨⟨a7, c7, rfl, hs7⟩, hB2⟩; have B2 : Hid (Below W.heap.size W w2) := B1.out.trans (hB2.mono B1.out.size); have S7 : Hid (SL w2 a7 qs) := hs7; replace S6 : Hid (SL w2 a6 qs) := S6.out.of_below hB2; clear hs7 hB2 C7 y0 y1 y2 y3)
    | (go_at_call 8; refine (C8.out _ _ _ _ _ S6.out S7.out).mono ?_; rintro e w3 ⟨rfl, hB3⟩; have B3 : Hid (Below W.heap.size W w3) := B2.out.trans (hB3.mono B2.out.size); clear hB3 C8; obtain ⟨_, _, _, _, y0, y1, y2, y3⟩ := KC.out w3 B3.out)
    | (go_at_call 9; refine (C9.out _ B3.out).mono ?_; rintro e w4 ⟨⟨a9, c9, rfl, hs9⟩, hB4⟩; have B4 : Hid (Below W.heap.size W w4) := B3.out.trans (hB4.mono B3.out.size); have S9 : Hid (SL w4 a9 qs2) := hs9; clear hs9 hB4 C9 y0 y1 y2 y3; obtain ⟨_, _, _, _, y0, y1, y2, y3⟩ := KC.out w4 B4.out)
    | (go_at_call 10; refine (C10.out _ B4.out).mono ?_; rintro e w5 ⟨⟨a10, c10, rfl, hs10⟩, hB5⟩; have B5 : Hid (Below W.heap.size W w5) := B4.out.trans (hB5.mono B4.out.size); have S10 : Hid (SL w5 a10 qs2) := hs10; replace S9 : Hid (SL w5 a9 qs2) := S9.out.of_below hB5; clear hs10 hB5 C10 y0 y1 y2 y3)
    | (go_at_call 8; refine (C8b.out _ _ _ _ _ S9.out S10.out).mono ?_; rintro e w6 ⟨rfl, hB6⟩; have B6 : Hid (Below W.heap.size W w6) := B5.out.trans (hB6.mono B5.out.size); clear hB6 C8b))
  go_ret
  exact ⟨rfl, J.out.trans (B6.out.mono J.out.size)⟩
/-- The law, whatever comes in. -/
theorem extracts_walk {w : World} (z : Int) (x y : ByteArray) {l m xs ys : List ByteArray} {ll mm : List (List ByteArray)} {a b a1 a2 b1 b2 : Option Addr} {c d c1 c2 d1 d2 : Nat}
    (hl : l.length ≤ 8796093022207) (hml : m.length ≤ 8796093022207) (hx : xs.length ≤ 8796093022207) (hy : ys.length ≤ 8796093022207) (hll : ll.length ≤ 8796093022207) (hmm : mm.length ≤ 8796093022207) (hl2 : ∀ i (h : i < ll.length), (ll[i]).length ≤ 8796093022207) (hm2 : ∀ i (h : i < mm.length), (mm[i]).length ≤ 8796093022207)
    (hs : SL w a l) (hm : SL w b m) (s1 : SL w a1 xs) (s2 : SLL w a2 ll) (t1 : SL w b1 ys) (t2 : SLL w b2 mm) :
    Calls Try.prog 3 #[.int .i64 z, .agg #[.string x, .slice a l.length c], .agg #[.string y, .slice b m.length d], .agg #[.slice a1 xs.length c1, .slice a2 ll.length c2], .agg #[.slice b1 ys.length d1, .slice b2 mm.length d2]] w fun e w' => e = .returned (.bool true) ∧ Below w.heap.size w w' := by
  obtain ⟨co, qs, hq, A6, A7⟩ := one_same z x y l m hl hml
  obtain ⟨kk, co2, qs2, hq2, A9, A10⟩ := any_same z xs ys ll mm hx hy hll hmm hl2 hm2
  exact law3 hq hq2 A6 A7 A9 A10 hs hm s1 s2 t1 t2
end Go.Proofs.Ytokkjdelomkfiaa
