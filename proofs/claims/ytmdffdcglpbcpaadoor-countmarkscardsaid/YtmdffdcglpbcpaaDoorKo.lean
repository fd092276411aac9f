/- The law's walk. -/
import Derived.Test.YtmdffdcglpbcpaaDoorKk
set_option linter.unusedSimpArgs false
set_option linter.unusedVariables false
set_option maxRecDepth 100000
namespace Go.Proofs.YtmdffdcglpbcpaaDoor
open Go.RowKit Go.Deep Go.PlainAid Go.Sort Go.Shelf Go.Lib

theorem LS.nil (W : World) : LS W (.slice none 0 0) [] := (OW.nil W).ls
set_option maxHeartbeats 2000000 in
theorem law3 {w : World} {lots nm : ByteArray} {a ta : Option Addr} {n c tn tc : Nat} {r s m z1 z2 : Int} {l1 l2 : List Int} (n1 : l1.length ≤ 4096) (n2 : l2.length ≤ 4096)
    (A4 : ∀ W, Below w.heap.size w W → Calls Tryd.prog 4 #[CV nm a n c r s m, .string lots] W fun e w' => (∃ v, e = .returned (.tuple #[v, .int .i64 z1]) ∧ LS w' v l1) ∧ Below W.heap.size W w')
    (A5 : ∀ W, Below w.heap.size w W → Calls Tryd.prog 5 #[CV nm a n c r s m, .string lots] W fun e w' => (∃ v, e = .returned (.tuple #[v, .int .i64 z1]) ∧ LS w' v l1) ∧ Below W.heap.size W w')
    (A7 : ∀ W, Below w.heap.size w W → Calls Tryd.prog 7 #[CV nm a n c r s m, .slice ta tn tc, .string lots] W fun e w' => (∃ v, e = .returned (.tuple #[v, .int .i64 z2]) ∧ LS w' v l2) ∧ Below W.heap.size W w')
    (A8 : ∀ W, Below w.heap.size w W → Calls Tryd.prog 8 #[CV nm a n c r s m, .slice ta tn tc, .string lots] W fun e w' => (∃ v, e = .returned (.tuple #[v, .int .i64 z2]) ∧ LS w' v l2) ∧ Below W.heap.size W w') :
    Calls Tryd.prog 3 #[CV nm a n c r s m, .slice ta tn tc, .string lots] w fun e w' => e = .returned (.bool true) ∧ Below w.heap.size w w' := by
  unfold CV at *
  have H4 : Hid (∀ W, Below w.heap.size w W → Calls Tryd.prog 4 #[.agg #[.string nm, .slice a n c, .int .i64 r, .int .i64 s, .int .i64 m], .string lots] W fun e w' => (∃ v, e = .returned (.tuple #[v, .int .i64 z1]) ∧ LS w' v l1) ∧ Below W.heap.size W w') := A4
  have H5 : Hid (∀ W, Below w.heap.size w W → Calls Tryd.prog 5 #[.agg #[.string nm, .slice a n c, .int .i64 r, .int .i64 s, .int .i64 m], .string lots] W fun e w' => (∃ v, e = .returned (.tuple #[v, .int .i64 z1]) ∧ LS w' v l1) ∧ Below W.heap.size W w') := A5
  have H7 : Hid (∀ W, Below w.heap.size w W → Calls Tryd.prog 7 #[.agg #[.string nm, .slice a n c, .int .i64 r, .int .i64 s, .int .i64 m], .slice ta tn tc, .string lots] W fun e w' => (∃ v, e = .returned (.tuple #[v, .int .i64 z2]) ∧ LS w' v l2) ∧ Below W.heap.size W w') := A7
  have H8 : Hid (∀ W, Below w.heap.size w W → Calls Tryd.prog 8 #[.agg #[.string nm, .slice a n c, .int .i64 r, .int .i64 s, .int .i64 m], .slice ta tn tc, .string lots] W fun e w' => (∃ v, e = .returned (.tuple #[v, .int .i64 z2]) ∧ LS w' v l2) ∧ Below W.heap.size W w') := A8
  have S1 : Hid (∀ W x y c d, IL W x l1 → IL W y l1 → Calls Tryd.prog 6 #[.slice x l1.length c, .slice y l1.length d] W fun e w' => e = .returned (.bool true) ∧ Below W.heap.size W w') := fun W x y c d h1 h2 => sameInts6 _ _ rfl n1 h1 h2
  have S2 : Hid (∀ W x y c d, IL W x l2 → IL W y l2 → Calls Tryd.prog 6 #[.slice x l2.length c, .slice y l2.length d] W fun e w' => e = .returned (.bool true) ∧ Below W.heap.size W w') := fun W x y c d h1 h2 => sameInts6 _ _ rfl n2 h1 h2
  clear A4 A5 A7 A8 n1 n2
  have B : Hid (Below w.heap.size w (w.alloc (.cells #[.string nm, .slice a n c, .int .i64 r, .int .i64 s, .int .i64 m] 24))) := (Below.refl _ _).alloc (Nat.le_refl _) _
  have I0 : Hid (IHolds (w.alloc (.cells #[.string nm, .slice a n c, .int .i64 r, .int .i64 s, .int .i64 m] 24)) w.heap.size 24 [.string nm, .slice a n c, .int .i64 r, .int .i64 s, .int .i64 m]) := IHolds.new w 24 _
  have e1 : (z1 != z1) = false := by simp
  have e2 : (z2 == z2) = true := by simp
  go_enter Tryd.func3, Tryd.ntmps3
  go_wp2_with (first
    | (go_at_call 4; refine (H4.out _ B.out).mono ?_; rintro e w1 ⟨⟨v1, rfl, hl⟩, hB⟩; obtain ⟨a1, c1, rfl, _, _, _, _, hi⟩ := hl.ex; have B1 : Hid (Below w.heap.size w w1) := B.out.trans (hB.mono B.out.size); have I1 : Hid (IHolds w1 w.heap.size 24 [.string nm, .slice a n c, .int .i64 r, .int .i64 s, .int .i64 m]) := I0.out.of_below hB; have L1 : Hid (IL w1 a1 l1) := hi; obtain ⟨k0, k1, k2, k3, k4⟩ := five I1.out; clear hB hl hi I0 H4)
    | (go_at_call 5; refine (H5.out _ B1.out).mono ?_; rintro e w2 ⟨⟨v2, rfl, hl⟩, hB⟩; obtain ⟨a2, c2, rfl, _, _, _, _, hi⟩ := hl.ex; have B2 : Hid (Below w.heap.size w w2) := B1.out.trans (hB.mono B1.out.size); have I2 : Hid (IHolds w2 w.heap.size 24 [.string nm, .slice a n c, .int .i64 r, .int .i64 s, .int .i64 m]) := I1.out.of_below hB; have L2 : Hid (IL w2 a1 l1) := L1.out.of_below hB; have L3 : Hid (IL w2 a2 l1) := hi; clear hB hl hi k0 k1 k2 k3 k4 I1 H5 L1)
    | (go_at_call 6; refine (S1.out _ _ _ _ _ L2.out L3.out).mono ?_; rintro e w3 ⟨rfl, hB⟩; have B3 : Hid (Below w.heap.size w w3) := B2.out.trans (hB.mono B2.out.size); have I3 : Hid (IHolds w3 w.heap.size 24 [.string nm, .slice a n c, .int .i64 r, .int .i64 s, .int .i64 m]) := I2.out.of_below hB; obtain ⟨k0, k1, k2, k3, k4⟩ := five I3.out; clear hB L2 L3 S1 I2)
    | (go_at_call 7; refine (H7.out _ B3.out).mono ?_; rintro e w4 ⟨⟨v4, rfl, hl⟩, hB⟩; obtain ⟨a4, c4, rfl, _, _, _, _, hi⟩ := hl.ex; have B4 : Hid (Below w.heap.size w w4) := B3.out.trans (hB.mono B3.out.size); have I4 : Hid (IHolds w4 w.heap.size 24 [.string nm, .slice a n c, .int .i64 r, .int .i64 s, .int .i64 m]) := I3.out.of_below hB; have L4 : Hid (IL w4 a4 l2) := hi; clear k0 k1 k2 k3 k4; obtain ⟨k0, k1, k2, k3, k4⟩ := five I4.out; clear hB hl hi I3 H7)
    | (go_at_call 8; refine (H8.out _ B4.out).mono ?_; rintro e w5 ⟨⟨v5, rfl, hl⟩, hB⟩; obtain ⟨a5, c5, rfl, _, _, _, _, hi⟩ := hl.ex; have B5 : Hid (Below w.heap.size w w5) := B4.out.trans (hB.mono B4.out.size); have L5 : Hid (IL w5 a4 l2) := L4.out.of_below hB; have L6 : Hid (IL w5 a5 l2) := hi; clear hB hl hi k0 k1 k2 k3 k4 I4 H8 L4)
    | (go_at_call 6; refine (S2.out _ _ _ _ _ L5.out L6.out).mono ?_; rintro e w6 ⟨rfl, hB⟩; have B6 : Hid (Below w.heap.size w w6) := B5.out.trans (hB.mono B5.out.size); clear hB L5 L6 S2)
    | fail)
  go_ret
  exact ⟨rfl, B6.out⟩
theorem to_nil {C : Nat} {x : Array Value} {W : World} {z : Int} (h : Calls Tryd.prog C x W fun e w' => e = .returned (.tuple #[.slice none 0 0, .int .i64 z]) ∧ Below W.heap.size W w') :
    Calls Tryd.prog C x W fun e w' => (∃ v, e = .returned (.tuple #[v, .int .i64 z]) ∧ LS w' v []) ∧ Below W.heap.size W w' := h.mono (by rintro e w' ⟨rfl, hB⟩; exact ⟨⟨_, rfl, LS.nil _⟩, hB⟩)
/-- The law, whatever is handed in. -/
theorem marks_walk {w : World} {lots nm : ByteArray} {a ta : Option Addr} {n c tc : Nat} {r s m : Int} {os : List ByteArray} {tl : List Int} (hf : Fit lots nm os) (ho : F.SAt w a os) (hn : os.length = n) (hL : IL w ta tl) (hT : F.Tabs w) (hS : F.Starts w) :
    Calls Tryd.prog 3 #[CV nm a n c r s m, .slice ta tl.length tc, .string lots] w fun e w' => e = .returned (.bool true) ∧ Below w.heap.size w w' := by
  by_cases hw : wc n r s = 0
  · have hfit := wc_fits hw
    obtain ⟨k, rfl⟩ : ∃ k : Nat, s = (k : Int) := ⟨s.toNat, by omega⟩
    have hlen : (zi (rl (ltL lots nm os) n)).length ≤ 4096 := by rw [zi_len, rl_length]; omega
    have A4 : ∀ W, Below w.heap.size w W → Calls Tryd.prog 4 #[CV nm a n c r k m, .string lots] W fun e w' => (∃ v, e = .returned (.tuple #[v, .int .i64 0]) ∧ LS w' v (zi (rl (ltL lots nm os) n))) ∧ Below W.heap.size W w' := fun W hW => lots4_ok hf (SAt.keep ho hW) hn hw (hT.of_below hW hT.size) (hS.of_below hW hT.size)
    have A5 : ∀ W, Below w.heap.size w W → Calls Tryd.prog 5 #[CV nm a n c r k m, .string lots] W fun e w' => (∃ v, e = .returned (.tuple #[v, .int .i64 0]) ∧ LS w' v (zi (rl (ltL lots nm os) n))) ∧ Below W.heap.size W w' := fun W hW => lots5_ok hf (SAt.keep ho hW) hn hw
    by_cases hl : tl.length = n
    · cases hg : tl.any (fun x => decide (x < 0)) with
      | true =>
        exact law3 hlen (by simp : ([] : List Int).length ≤ 4096) A4 A5 (fun W hW => to_nil (most7_n hw (SAt.keep ho hW) hf hn (hT.of_below hW hT.size) (hS.of_below hW hT.size) hl (hL.of_below hW) hg)) (fun W hW => to_nil (most8_n hw (SAt.keep ho hW) hf hn hl (hL.of_below hW) hg))
      | false =>
        obtain ⟨R, hR⟩ := best_ex (fun x => tl.getD x 0) (D := rl (ltL lots nm os) n) ((rl_perm _ _).nodup_iff.2 List.nodup_range)
        have hRl : (zi (R.take k)).length ≤ 4096 := by rw [zi_len, List.length_take, hR.1.length_eq, rl_length]; omega
        exact law3 hlen hRl A4 A5 (fun W hW => (most7_ok hw (SAt.keep ho hW) hf hn (hT.of_below hW hT.size) (hS.of_below hW hT.size) hl (hL.of_below hW) hg).mono (by
            rintro e w' ⟨⟨v, R', rfl, h1, h2⟩, hB⟩
            rw [h1.eq hR] at h2
            exact ⟨⟨v, rfl, h2⟩, hB⟩)) (fun W hW => (most8_ok hw (SAt.keep ho hW) hf hn hl (hL.of_below hW) hg).mono (by
            rintro e w' ⟨⟨v, R', rfl, h1, h2⟩, hB⟩
            rw [h1.eq hR] at h2
            exact ⟨⟨v, rfl, h2⟩, hB⟩))
    · exact law3 hlen (by simp : ([] : List Int).length ≤ 4096) A4 A5 (fun W hW => to_nil (most7_l hw (SAt.keep ho hW) hf hn (hT.of_below hW hT.size) (hS.of_below hW hT.size) hl)) (fun W hW => to_nil (most8_l hw (SAt.keep ho hW) hf hn hl))
  · have hw2 := wc_two hw
    exact law3 (by simp : ([] : List Int).length ≤ 4096) (by simp : ([] : List Int).length ≤ 4096) (fun W hW => to_nil (lots4_bad hw2)) (fun W hW => to_nil (lots5_bad hw2)) (fun W hW => to_nil (most7_w (os := os) hw2)) (fun W hW => to_nil (most8_w hw2))
end Go.Proofs.YtmdffdcglpbcpaaDoor
