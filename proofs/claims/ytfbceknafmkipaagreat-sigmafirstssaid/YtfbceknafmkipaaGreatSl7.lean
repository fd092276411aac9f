/- wrongPair, groundOf, alone. -/
import Derived.Test.YtfbceknafmkipaaGreatSl6
import Derived.Test.YtfbceknafmkipaaGreatBd
set_option linter.unusedSimpArgs false
set_option linter.unusedVariables false
set_option maxRecDepth 100000
namespace Go.Proofs.YtfbceknafmkipaaGreat
open Go.RowKit Go.Deep Go.PlainAid

/-- What is wrong with a pair. -/
def wpCode (p : ByteArray → Bool) (xs ys : List ByteArray) (ll mm : List (List ByteArray)) : Int :=
  if unl xs ys ll mm = true then 2 else if (allP p xs ll && allP p ys mm) = false then 6 else if decide (xs = ys) = true then 9 else 0
set_option maxHeartbeats 2000000 in
theorem wrongPair31 {w : World} {a1 a2 b1 b2 : Option Addr} {xs ys : List ByteArray} {ll mm : List (List ByteArray)} {c1 c2 d1 d2 : Nat} {z : Int} (p : ByteArray → Bool)
    (hx : xs.length ≤ 8796093022207) (hy : ys.length ≤ 8796093022207) (hl : Lens ll) (hm : Lens mm) (s1 : SL w a1 xs) (s2 : SLL w a2 ll) (t1 : SL w b1 ys) (t2 : SLL w b2 mm)
    (CN : ∀ s W, Calls Tryz.prog 24 #[.agg #[.int .i64 z], .string s] W fun e w' => e = .returned (.bool (!p s)) ∧ Below W.heap.size W w') :
    Calls Tryz.prog 57 #[.agg #[.int .i64 z], .agg #[.slice a1 xs.length c1, .slice a2 ll.length c2], .agg #[.slice b1 ys.length d1, .slice b2 mm.length d2]] w fun e w' => e = .returned (.int .i64 (wpCode p xs ys ll mm)) ∧ Below w.heap.size w w' := by
  generalize hW : ((w.alloc (.cells #[.int .i64 z] 39)).alloc (.cells #[.slice a1 xs.length c1, .slice a2 ll.length c2] 63)).alloc (.cells #[.slice b1 ys.length d1, .slice b2 mm.length d2] 63) = W
  have J : Below w.heap.size w W := by rw [← hW]; exact (((Below.refl _ w).alloc (Nat.le_refl _) _).alloc (by simp) _).alloc (by simp; omega) _
  have I0 : Hid (IHolds W w.heap.size 39 [.int .i64 z]) := by rw [← hW]; exact ((IHolds.new' w 39 [.int .i64 z] rfl).alloc _).alloc _
  have I1 : Hid (IHolds W (w.heap.size + 1) 63 [.slice a1 xs.length c1, .slice a2 ll.length c2]) := by rw [← hW]; exact (IHolds.new' (w.alloc _) 63 [.slice a1 xs.length c1, .slice a2 ll.length c2] (by simp)).alloc _
  have I2 : Hid (IHolds W (w.heap.size + 1 + 1) 63 [.slice b1 ys.length d1, .slice b2 mm.length d2]) := by rw [← hW]; exact IHolds.new' ((w.alloc _).alloc _) 63 [.slice b1 ys.length d1, .slice b2 mm.length d2] (by simp)
  have h1 := unlike64 (c1 := c1) (c2 := c2) (d1 := d1) (d2 := d2) (a1 := a1) (b1 := b1) (xs := xs) (ys := ys) hl.1 (s2.of_below J) (t2.of_below J)
  have h2 := fun W2 (hb : Below W.heap.size W W2) => allScalars65 (c := c1) (c2 := c2) p (by omega) hl ((s1.of_below J).of_below hb) ((s2.of_below J).of_below hb) CN
  have h3 := fun W2 (hb : Below W.heap.size W W2) => allScalars65 (c := d1) (c2 := d2) p (by omega) hm ((t1.of_below J).of_below hb) ((t2.of_below J).of_below hb) CN
  have h4 := fun W2 (hb : Below W.heap.size W W2) => equal66 (c := c1) (d := d1) (by omega) ((s1.of_below J).of_below hb) ((t1.of_below J).of_below hb)
  have HB : Hid (Below w.heap.size w W) := J
  have d0 : W.cell? ⟨w.heap.size, 0, none⟩ = some (.int .i64 z) := I0.out.cell 0 (by simp)
  have d1' : W.cell? ⟨w.heap.size + 1, 0, none⟩ = some (.slice a1 xs.length c1) := I1.out.cell 0 (by simp)
  have d2' : W.cell? ⟨w.heap.size + 1, 1, none⟩ = some (.slice a2 ll.length c2) := I1.out.cell 1 (by simp)
  have d3' : W.cell? ⟨w.heap.size + 1 + 1, 0, none⟩ = some (.slice b1 ys.length d1) := I2.out.cell 0 (by simp)
  have d4' : W.cell? ⟨w.heap.size + 1 + 1, 1, none⟩ = some (.slice b2 mm.length d2) := I2.out.cell 1 (by simp)
  unfold wpCode
  clear s1 s2 t1 t2 CN J hl hm
  generalize unl xs ys ll mm = u1 at *
  generalize allP p xs ll = u2 at *
  generalize allP p ys mm = u3 at *
  generalize decide (xs = ys) = u4 at *
  cases u1 with
  | true =>
    clear h2 h3 h4
    go_enter Tryz.func57, Tryz.ntmps57
    go_wp2_with (go_at_call 81; refine h1.mono ?_; rintro e w1 ⟨rfl, hB1⟩)
    go_ret
    exact ⟨rfl, HB.out.trans (hB1.mono HB.out.size)⟩
  | false =>
    cases u2 with
    | false =>
      clear h3 h4
      go_enter Tryz.func57, Tryz.ntmps57
      go_wp2_with (first
        | (go_at_call 81; refine h1.mono ?_; rintro e w1 ⟨rfl, hB1⟩; have B1 : Hid (Below W.heap.size W w1) := hB1; have e0 := (I0.out.of_below hB1).cell 0 (by simp); have e1 := (I1.out.of_below hB1).cell 0 (by simp); have e2 := (I1.out.of_below hB1).cell 1 (by simp); simp only [List.getElem_cons_zero, List.getElem_cons_succ] at e0 e1 e2; clear hB1)
        | (go_at_call 82; refine (h2 _ B1.out).mono ?_; rintro e w2 ⟨rfl, hB2⟩))
      go_ret
      exact ⟨rfl, HB.out.trans ((B1.out.trans (hB2.mono B1.out.size)).mono HB.out.size)⟩
    | true =>
      cases u3 with
      | false =>
        clear h4
        go_enter Tryz.func57, Tryz.ntmps57
        go_wp2_with (first
          | (go_at_call 81; refine h1.mono ?_; rintro e w1 ⟨rfl, hB1⟩; have B1 : Hid (Below W.heap.size W w1) := hB1; have e0 := (I0.out.of_below hB1).cell 0 (by simp); have e1 := (I1.out.of_below hB1).cell 0 (by simp); have e2 := (I1.out.of_below hB1).cell 1 (by simp); simp only [List.getElem_cons_zero, List.getElem_cons_succ] at e0 e1 e2; clear hB1)
          | (go_at_call 82; refine (h2 _ B1.out).mono ?_; rintro e w2 ⟨rfl, hB2⟩; have B2 : Hid (Below W.heap.size W w2) := B1.out.trans (hB2.mono B1.out.size); clear hB2; have f0 := (I0.out.of_below B2.out).cell 0 (by simp); have f1 := (I2.out.of_below B2.out).cell 0 (by simp); have f2 := (I2.out.of_below B2.out).cell 1 (by simp); simp only [List.getElem_cons_zero, List.getElem_cons_succ] at f0 f1 f2; clear h2)
          | (go_at_call 82; refine (h3 _ B2.out).mono ?_; rintro e w3 ⟨rfl, hB3⟩))
        go_ret
        exact ⟨rfl, HB.out.trans ((B2.out.trans (hB3.mono B2.out.size)).mono HB.out.size)⟩
      | true =>
        cases u4 with
        | false =>
          go_enter Tryz.func57, Tryz.ntmps57
          go_wp2_with (first
            | (go_at_call 81; refine h1.mono ?_; rintro e w1 ⟨rfl, hB1⟩; have B1 : Hid (Below W.heap.size W w1) := hB1; have e0 := (I0.out.of_below hB1).cell 0 (by simp); have e1 := (I1.out.of_below hB1).cell 0 (by simp); have e2 := (I1.out.of_below hB1).cell 1 (by simp); simp only [List.getElem_cons_zero, List.getElem_cons_succ] at e0 e1 e2; clear hB1)
            | (go_at_call 82; refine (h2 _ B1.out).mono ?_; rintro e w2 ⟨rfl, hB2⟩; have B2 : Hid (Below W.heap.size W w2) := B1.out.trans (hB2.mono B1.out.size); clear hB2; have f0 := (I0.out.of_below B2.out).cell 0 (by simp); have f1 := (I2.out.of_below B2.out).cell 0 (by simp); have f2 := (I2.out.of_below B2.out).cell 1 (by simp); simp only [List.getElem_cons_zero, List.getElem_cons_succ] at f0 f1 f2; clear h2)
            | (go_at_call 82; refine (h3 _ B2.out).mono ?_; rintro e w3 ⟨rfl, hB3⟩; have B3 : Hid (Below W.heap.size W w3) := B2.out.trans (hB3.mono B2.out.size); clear hB3; have g1 := (I1.out.of_below B3.out).cell 0 (by simp); have g2 := (I2.out.of_below B3.out).cell 0 (by simp); simp only [List.getElem_cons_zero, List.getElem_cons_succ] at g1 g2; clear h3)
            | (go_at_call 67; refine (h4 _ B3.out).mono ?_; rintro e w4 ⟨rfl, hB4⟩))
          go_ret
          exact ⟨rfl, HB.out.trans ((B3.out.trans (hB4.mono B3.out.size)).mono HB.out.size)⟩
        | true =>
          go_enter Tryz.func57, Tryz.ntmps57
          go_wp2_with (first
            | (go_at_call 81; refine h1.mono ?_; rintro e w1 ⟨rfl, hB1⟩; have B1 : Hid (Below W.heap.size W w1) := hB1; have e0 := (I0.out.of_below hB1).cell 0 (by simp); have e1 := (I1.out.of_below hB1).cell 0 (by simp); have e2 := (I1.out.of_below hB1).cell 1 (by simp); simp only [List.getElem_cons_zero, List.getElem_cons_succ] at e0 e1 e2; clear hB1)
            | (go_at_call 82; refine (h2 _ B1.out).mono ?_; rintro e w2 ⟨rfl, hB2⟩; have B2 : Hid (Below W.heap.size W w2) := B1.out.trans (hB2.mono B1.out.size); clear hB2; have f0 := (I0.out.of_below B2.out).cell 0 (by simp); have f1 := (I2.out.of_below B2.out).cell 0 (by simp); have f2 := (I2.out.of_below B2.out).cell 1 (by simp); simp only [List.getElem_cons_zero, List.getElem_cons_succ] at f0 f1 f2; clear h2)
            | (go_at_call 82; refine (h3 _ B2.out).mono ?_; rintro e w3 ⟨rfl, hB3⟩; have B3 : Hid (Below W.heap.size W w3) := B2.out.trans (hB3.mono B2.out.size); clear hB3; have g1 := (I1.out.of_below B3.out).cell 0 (by simp); have g2 := (I2.out.of_below B3.out).cell 0 (by simp); simp only [List.getElem_cons_zero, List.getElem_cons_succ] at g1 g2; clear h3)
            | (go_at_call 67; refine (h4 _ B3.out).mono ?_; rintro e w4 ⟨rfl, hB4⟩))
          go_ret
          exact ⟨rfl, HB.out.trans ((B3.out.trans (hB4.mono B3.out.size)).mono HB.out.size)⟩
theorem groundOf30 {w : World} {z s c : Int} (h : ∀ W, Calls Tryz.prog 60 #[.int .i64 z] W fun e w' => e = .returned (.tuple #[.int .i64 s, .int .i64 s, .int .i64 c]) ∧ Below W.heap.size W w') :
    Calls Tryz.prog 30 #[.int .i64 z] w fun e w' => e = .returned (.tuple #[.agg #[.int .i64 z], .int .i64 c]) ∧ Below w.heap.size w w' := by
  generalize hW : w.alloc (.cells #[.int .i64 0] 39) = W
  have J : Hid (Below w.heap.size w W) := by rw [← hW]; exact (Below.refl _ w).alloc (Nat.le_refl _) _
  have I0 : Hid (IHolds W w.heap.size 39 [.int .i64 0]) := by rw [← hW]; exact IHolds.new' w 39 [.int .i64 0] rfl
  go_enter Tryz.func30, Tryz.ntmps30
  go_wp2_with (go_at_call 60; refine (h _).mono ?_; rintro e w1 ⟨rfl, hB1⟩; have B1 : Hid (Below w.heap.size w w1) := J.out.trans (hB1.mono J.out.size); have I1 : Hid (IHolds w1 w.heap.size 39 [.int .i64 0]) := I0.out.of_below hB1; have f1 : w1.frozen? ⟨w.heap.size, 0, none⟩ = false := I1.out.frozen 0; have g1 := I1.out.cell 0 (by simp); clear hB1)
  have I2 : Hid (IHolds (w1.setCell ⟨w.heap.size, 0, none⟩ (.int .i64 z)) w.heap.size 39 [.int .i64 z]) := I1.out.set 0 (.int .i64 z)
  have B2 : Hid (Below w.heap.size w (w1.setCell ⟨w.heap.size, 0, none⟩ (.int .i64 z))) := Below.setCell B1.out (Nat.le_refl _) _
  generalize w1.setCell ⟨w.heap.size, 0, none⟩ (.int .i64 z) = w2 at *
  have E0 : w2.cell? ⟨w.heap.size, 0, none⟩ = some (.int .i64 z) := I2.out.cell 0 (by simp)
  exact bodyPost_ret (v := .tuple #[.agg #[.int .i64 z], .int .i64 c]) (by simp [results, Tryz.results30, go_sem, E0]) rfl ⟨rfl, B2.out⟩
set_option maxHeartbeats 1000000 in
theorem alone21 {w : World} {a : Option Addr} {x : ByteArray} {l : List ByteArray} {c : Nat} (hs : SL w a l) :
    Calls Tryz.prog 29 #[.agg #[.string x, .slice a l.length c]] w fun e w' => (∃ a1 c1 a2 c2, e = .returned (.agg #[.slice a1 [x].length c1, .slice a2 [l].length c2]) ∧ SL w' a1 [x] ∧ SLL w' a2 [l]) ∧ Below w.heap.size w w' := by
  go_enter Tryz.func29, Tryz.ntmps29
  go_wp2_with fail
  generalize hW : (((w.alloc (.cells #[.string x, .slice a l.length c] 33)).alloc (.cells #[.slice (some ⟨w.heap.size + 1 + 1, 0, none⟩) 1 1, .slice (some ⟨w.heap.size + 1 + 1 + 1, 0, none⟩) 1 1] 63)).alloc (.cells #[.string x] 9)).alloc (.cells #[.slice a l.length c] 23) = W
  have J : Below w.heap.size w W := by rw [← hW]; exact ((((Below.refl _ w).alloc (Nat.le_refl _) _).alloc (by simp) _).alloc (by simp; omega) _).alloc (by simp; omega) _
  have I1 : IHolds W (w.heap.size + 1) 63 [.slice (some ⟨w.heap.size + 1 + 1, 0, none⟩) 1 1, .slice (some ⟨w.heap.size + 1 + 1 + 1, 0, none⟩) 1 1] := by rw [← hW]; exact ((IHolds.new' (w.alloc _) 63 [_, _] (by simp)).alloc _).alloc _
  have I2 : IHolds W (w.heap.size + 1 + 1) 9 ([x].map Value.string) := by rw [← hW]; exact (IHolds.new' ((w.alloc _).alloc _) 9 [_] (by simp)).alloc _
  have I3 : IHolds W (w.heap.size + 1 + 1 + 1) 23 [.slice a l.length c] := by rw [← hW]; exact (IHolds.new' (((w.alloc _).alloc _).alloc _) 23 [_] (by simp))
  have E0 : W.cell? ⟨w.heap.size + 1, 0, none⟩ = some (.slice (some ⟨w.heap.size + 1 + 1, 0, none⟩) 1 1) := I1.cell 0 (by simp)
  have E1 : W.cell? ⟨w.heap.size + 1, 1, none⟩ = some (.slice (some ⟨w.heap.size + 1 + 1 + 1, 0, none⟩) 1 1) := I1.cell 1 (by simp)
  refine bodyPost_ret (v := .agg #[.slice (some ⟨w.heap.size + 1 + 1, 0, none⟩) 1 1, .slice (some ⟨w.heap.size + 1 + 1 + 1, 0, none⟩) 1 1]) (by simp [results, Tryz.results29, go_sem, E0, E1]) rfl ⟨⟨_, _, _, _, rfl, I2.sl, ?_⟩, J⟩
  intro i hi
  have e : i = 0 := by simp at hi; omega
  subst e
  exact ⟨_, _, _, _, rfl, I3.cell 0 (by simp), hs.of_below J⟩
end Go.Proofs.YtfbceknafmkipaaGreat
