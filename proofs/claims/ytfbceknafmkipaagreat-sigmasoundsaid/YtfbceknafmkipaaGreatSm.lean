/- Extract. -/
import Derived.Test.YtfbceknafmkipaaGreatSl9
set_option linter.unusedSimpArgs false
set_option linter.unusedVariables false
set_option maxRecDepth 100000
namespace Go.Proofs.YtfbceknafmkipaaGreat
open Go.RowKit Go.Deep Go.PlainAid

set_option maxHeartbeats 2000000 in
theorem extract6 {w : World} {a b : Option Addr} {x y : ByteArray} {l m qs : List ByteArray} {c d : Nat} {z co : Int} (hs : SL w a l) (hm : SL w b m)
    (C9 : ∀ V a1 c1 a2 c2 b1 d1 b2 d2, Below w.heap.size w V → SL V a1 [x] → SLL V a2 [l] → SL V b1 [y] → SLL V b2 [m] → Calls Tryz.prog 28 #[.int .i64 z, .agg #[.slice a1 [x].length c1, .slice a2 [l].length c2], .agg #[.slice b1 [y].length d1, .slice b2 [m].length d2]] V fun e V' => (∃ k a' c', e = .returned (.tuple #[.int .i64 k, .slice a' qs.length c', .int .i64 co]) ∧ SL V' a' qs) ∧ Below V.heap.size V V') :
    Calls Tryz.prog 13 #[.int .i64 z, .agg #[.string x, .slice a l.length c], .agg #[.string y, .slice b m.length d]] w fun e w' => (∃ a' c', e = .returned (.tuple #[.slice a' qs.length c', .int .i64 co]) ∧ SL w' a' qs) ∧ Below w.heap.size w w' := by
  generalize hW : (w.alloc (.cells #[.string x, .slice a l.length c] 33)).alloc (.cells #[.string y, .slice b m.length d] 33) = W
  have J : Hid (Below w.heap.size w W) := by rw [← hW]; exact ((Below.refl _ w).alloc (Nat.le_refl _) _).alloc (by simp) _
  have I1 : Hid (IHolds W w.heap.size 33 [.string x, .slice a l.length c]) := by rw [← hW]; exact (IHolds.new' w 33 [.string x, .slice a l.length c] rfl).alloc _
  have I2 : Hid (IHolds W (w.heap.size + 1) 33 [.string y, .slice b m.length d]) := by rw [← hW]; exact IHolds.new' (w.alloc _) 33 [.string y, .slice b m.length d] (by simp)
  have C1 : Hid (∀ V, Below W.heap.size W V → Calls Tryz.prog 29 #[.agg #[.string x, .slice a l.length c]] V fun e w' => (∃ a1 c1 a2 c2, e = .returned (.agg #[.slice a1 [x].length c1, .slice a2 [l].length c2]) ∧ SL w' a1 [x] ∧ SLL w' a2 [l]) ∧ Below V.heap.size V w') := fun V hV => alone21 ((hs.of_below J.out).of_below hV)
  have C2 : Hid (∀ V, Below W.heap.size W V → Calls Tryz.prog 29 #[.agg #[.string y, .slice b m.length d]] V fun e w' => (∃ a1 c1 a2 c2, e = .returned (.agg #[.slice a1 [y].length c1, .slice a2 [m].length c2]) ∧ SL w' a1 [y] ∧ SLL w' a2 [m]) ∧ Below V.heap.size V w') := fun V hV => alone21 ((hm.of_below J.out).of_below hV)
  have KP : Hid (∀ V, Below W.heap.size W V → (Below W.heap.size W V ∧ V.cell? ⟨w.heap.size, 0, none⟩ = some (.string x) ∧ V.cell? ⟨w.heap.size, 1, none⟩ = some (.slice a l.length c) ∧ V.cell? ⟨w.heap.size + 1, 0, none⟩ = some (.string y) ∧ V.cell? ⟨w.heap.size + 1, 1, none⟩ = some (.slice b m.length d))) := fun V hb => ⟨hb, cell_keep I1.out.two0 hb, cell_keep I1.out.two1 hb, cell_keep I2.out.two0 hb, cell_keep I2.out.two1 hb⟩
  have sB : Hid (∀ V V', Below V.heap.size V V' → Below W.heap.size W V → Below W.heap.size W V') := fun V V' h h' => h'.trans (h.mono h'.size)
  have H9 : Hid (∀ V a1 c1 a2 c2 b1 d1 b2 d2, Below W.heap.size W V → SL V a1 [x] → SLL V a2 [l] → SL V b1 [y] → SLL V b2 [m] → Calls Tryz.prog 28 #[.int .i64 z, .agg #[.slice a1 1 c1, .slice a2 1 c2], .agg #[.slice b1 1 d1, .slice b2 1 d2]] V fun e V' => (∃ k a' c', e = .returned (.tuple #[.int .i64 k, .slice a' qs.length c', .int .i64 co]) ∧ SL V' a' qs) ∧ Below V.heap.size V V') := fun V a1 c1 a2 c2 b1 d1 b2 d2 hV => C9 V a1 c1 a2 c2 b1 d1 b2 d2 (J.out.trans (hV.mono J.out.size))
  clear I1 I2 hs hm C9
  go_enter Tryz.func13, Tryz.ntmps13
  go_wp2_with fail
  clear hW
  go_region_held (fun V => Below W.heap.size W V ∧ V.cell? ⟨w.heap.size, 0, none⟩ = some (.string x) ∧ V.cell? ⟨w.heap.size, 1, none⟩ = some (.slice a l.length c) ∧ V.cell? ⟨w.heap.size + 1, 0, none⟩ = some (.string y) ∧ V.cell? ⟨w.heap.size + 1, 1, none⟩ = some (.slice b m.length d))
    (first | exact KP.out _ (dB _) | assumption | exact KP.out _ B5.out | exact KP.out _ B4.out | exact KP.out _ B3.out | fail)
    (first
      | (go_at_call 28; refine (H9.out _ _ _ _ _ _ _ _ _ (And.left (by assumption)) T1.out T2.out T3.out T4.out).mono ?_; rintro e w5 ⟨⟨k5, a5, c5, rfl, hs5⟩, hB5⟩; have B5 : Hid (Below W.heap.size W w5) := sB.out _ _ hB5 (And.left (by assumption)); have S5 : Hid (SL w5 a5 qs) := hs5; clear hs5)
      | (go_at_call 29; refine (C1.out _ (And.left (by assumption))).mono ?_; rintro e w3 ⟨⟨a1, c1, a2, c2, rfl, t1, t2⟩, hB3⟩; have B3 : Hid (Below W.heap.size W w3) := sB.out _ _ hB3 (And.left (by assumption)); have T1 : Hid (SL w3 a1 [x]) := t1; have T2 : Hid (SLL w3 a2 [l]) := t2; clear t1 t2 C1)
      | (go_at_call 29; refine (C2.out _ (And.left (by assumption))).mono ?_; rintro e w4 ⟨⟨b1, d1, b2, d2, rfl, t3, t4⟩, hB4⟩; have B4 : Hid (Below W.heap.size W w4) := sB.out _ _ hB4 (And.left (by assumption)); replace T1 : Hid (SL w4 a1 [x]) := T1.out.of_below hB4; replace T2 : Hid (SLL w4 a2 [l]) := T2.out.of_below hB4; have T3 : Hid (SL w4 b1 [y]) := t3; have T4 : Hid (SLL w4 b2 [m]) := t4; clear t3 t4))
  all_goals (go_wp2_with fail)
  all_goals exact bodyPost_ret (v := .tuple #[.slice a5 qs.length c5, .int .i64 co]) (by simp [results, Tryz.results13, go_sem]) rfl ⟨⟨_, _, rfl, S5.out⟩, J.out.trans (B5.out.mono J.out.size)⟩
end Go.Proofs.YtfbceknafmkipaaGreat
