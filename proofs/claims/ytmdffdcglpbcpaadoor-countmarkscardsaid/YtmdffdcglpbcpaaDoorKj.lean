/- Most, both sides. -/
import Derived.Test.YtmdffdcglpbcpaaDoorKi
set_option linter.unusedSimpArgs false
set_option linter.unusedVariables false
set_option maxRecDepth 100000
namespace Go.Proofs.YtmdffdcglpbcpaaDoor
open Go.RowKit Go.Deep Go.PlainAid Go.Sort Go.Shelf Go.Lib

theorem Best.eq {t : Nat → Int} {D R R' : List Nat} (h : Best t D R) (h' : Best t D R') : R = R' := lx_once (gt_swo t) _ h.2 h'.2 (h.1.trans h'.1.symm)
theorem best_ex (t : Nat → Int) {D : List Nat} (hnd : D.Nodup) : ∃ R, Best t D R := by
  obtain ⟨p1, p2⟩ := stable (gt_swo t) (D.idxOf ·) D (fun q hq => hnd.idxOf_getElem q hq)
  exact ⟨_, p1, p2⟩
set_option maxHeartbeats 1000000 in
theorem most7_w {w : World} {lots nm : ByteArray} {a ta : Option Addr} {n c tc : Nat} {r s m : Int} {os : List ByteArray} {tl : List Int} (hw : wc n r s = 2) :
    Calls Tryd.prog 7 #[CV nm a n c r s m, .slice ta tl.length tc, .string lots] w fun e w' => e = .returned (.tuple #[.slice none 0 0, .int .i64 2]) ∧ Below w.heap.size w w' := by
  have H : Hid (∀ W, Calls Tryd.prog 9 #[.agg #[.string nm, .slice a n c, .int .i64 r, .int .i64 s, .int .i64 m]] W fun e w' => e = .returned (.int .i64 2) ∧ Below W.heap.size W w') := fun W => by have := wrong9 nm a n c r s m W; rw [hw] at this; exact this
  clear hw
  unfold CV
  have B : Hid (Below w.heap.size w (w.alloc (.cells #[.string nm, .slice a n c, .int .i64 r, .int .i64 s, .int .i64 m] 24))) := (Below.refl _ _).alloc (Nat.le_refl _) _
  have I0 : Hid (IHolds (w.alloc (.cells #[.string nm, .slice a n c, .int .i64 r, .int .i64 s, .int .i64 m] 24)) w.heap.size 24 [.string nm, .slice a n c, .int .i64 r, .int .i64 s, .int .i64 m]) := IHolds.new w 24 _
  go_enter Tryd.func7, Tryd.ntmps7
  go_wp2_with (first
    | (go_at_call 9; refine (H.out _).mono ?_; rintro e w1 ⟨rfl, hB⟩; have B1 : Hid (Below w.heap.size w w1) := B.out.trans (hB.mono B.out.size); have I1 : Hid (IHolds w1 w.heap.size 24 [.string nm, .slice a n c, .int .i64 r, .int .i64 s, .int .i64 m]) := I0.out.of_below hB; obtain ⟨k0, k1, k2, k3, k4⟩ := five I1.out; clear hB H I0)
    | fail)
  go_ret2
  exact ⟨rfl, B1.out⟩
set_option maxHeartbeats 1000000 in
theorem most7_l {w : World} {lots nm : ByteArray} {a ta : Option Addr} {n c tc : Nat} {r s m : Int} {os : List ByteArray} {tl : List Int} (hw : wc n r s = 0) (ho : F.SAt w a os) (hf : Fit lots nm os) (hn : os.length = n) (hT : F.Tabs w) (hS : F.Starts w) (hl : tl.length ≠ n) :
    Calls Tryd.prog 7 #[CV nm a n c r s m, .slice ta tl.length tc, .string lots] w fun e w' => e = .returned (.tuple #[.slice none 0 0, .int .i64 2]) ∧ Below w.heap.size w w' := by
  have H : Hid (∀ W, Calls Tryd.prog 9 #[.agg #[.string nm, .slice a n c, .int .i64 r, .int .i64 s, .int .i64 m]] W fun e w' => e = .returned (.int .i64 0) ∧ Below W.heap.size W w') := fun W => by have := wrong9 nm a n c r s m W; rw [hw] at this; exact this
  have c0 : ((tl.length : Int) == (n : Int)) = false := by simp; omega
  have c1 : ((tl.length : Int) != (n : Int)) = true := by simp; omega
  clear ho hf hn hT hS hw
  unfold CV
  have B : Hid (Below w.heap.size w (w.alloc (.cells #[.string nm, .slice a n c, .int .i64 r, .int .i64 s, .int .i64 m] 24))) := (Below.refl _ _).alloc (Nat.le_refl _) _
  have I0 : Hid (IHolds (w.alloc (.cells #[.string nm, .slice a n c, .int .i64 r, .int .i64 s, .int .i64 m] 24)) w.heap.size 24 [.string nm, .slice a n c, .int .i64 r, .int .i64 s, .int .i64 m]) := IHolds.new w 24 _
  go_enter Tryd.func7, Tryd.ntmps7
  go_wp2_with (first
    | (go_at_call 9; refine (H.out _).mono ?_; rintro e w1 ⟨rfl, hB⟩; have B1 : Hid (Below w.heap.size w w1) := B.out.trans (hB.mono B.out.size); have I1 : Hid (IHolds w1 w.heap.size 24 [.string nm, .slice a n c, .int .i64 r, .int .i64 s, .int .i64 m]) := I0.out.of_below hB; obtain ⟨k0, k1, k2, k3, k4⟩ := five I1.out; clear hB H I0)
    | fail)
  go_ret2
  exact ⟨rfl, B1.out⟩
set_option maxHeartbeats 1000000 in
theorem most7_n {w : World} {lots nm : ByteArray} {a ta : Option Addr} {n c tc : Nat} {r s m : Int} {os : List ByteArray} {tl : List Int} (hw : wc n r s = 0) (ho : F.SAt w a os) (hf : Fit lots nm os) (hn : os.length = n) (hT : F.Tabs w) (hS : F.Starts w) (hl : tl.length = n) (hL : IL w ta tl) (hg : tl.any (fun x => decide (x < 0)) = true) :
    Calls Tryd.prog 7 #[CV nm a n c r s m, .slice ta tl.length tc, .string lots] w fun e w' => e = .returned (.tuple #[.slice none 0 0, .int .i64 4]) ∧ Below w.heap.size w w' := by
  have H : Hid (∀ W, Calls Tryd.prog 9 #[.agg #[.string nm, .slice a n c, .int .i64 r, .int .i64 s, .int .i64 m]] W fun e w' => e = .returned (.int .i64 0) ∧ Below W.heap.size W w') := fun W => by have := wrong9 nm a n c r s m W; rw [hw] at this; exact this
  obtain ⟨⟨n1, n12⟩, _⟩ := wc_fits hw
  have CN : Hid (∀ W, Below w.heap.size w W → Calls Tryd.prog 13 #[.slice ta n tc, .func (.func 14) #[] #[]] W fun e w' => e = .returned (.bool true) ∧ Below W.heap.size W w') := fun W hW => by
    have q := contains13 (c := tc) hl (by omega) (hL.of_below hW)
    rw [hg] at q; exact q
  rw [hl]
  clear ho hf hn hT hS hw hL hg hl
  unfold CV
  have B : Hid (Below w.heap.size w (w.alloc (.cells #[.string nm, .slice a n c, .int .i64 r, .int .i64 s, .int .i64 m] 24))) := (Below.refl _ _).alloc (Nat.le_refl _) _
  have I0 : Hid (IHolds (w.alloc (.cells #[.string nm, .slice a n c, .int .i64 r, .int .i64 s, .int .i64 m] 24)) w.heap.size 24 [.string nm, .slice a n c, .int .i64 r, .int .i64 s, .int .i64 m]) := IHolds.new w 24 _
  go_enter Tryd.func7, Tryd.ntmps7
  go_wp2_with (first
    | (go_at_call 9; refine (H.out _).mono ?_; rintro e w1 ⟨rfl, hB⟩; have B1 : Hid (Below w.heap.size w w1) := B.out.trans (hB.mono B.out.size); have I1 : Hid (IHolds w1 w.heap.size 24 [.string nm, .slice a n c, .int .i64 r, .int .i64 s, .int .i64 m]) := I0.out.of_below hB; obtain ⟨k0, k1, k2, k3, k4⟩ := five I1.out; clear hB H I0)
    | (go_at_call 13; refine (CN.out _ B1.out).mono ?_; rintro e w2 ⟨rfl, hB⟩; have B2 : Hid (Below w.heap.size w w2) := B1.out.trans (hB.mono B1.out.size); clear hB CN)
    | fail)
  go_ret2
  exact ⟨rfl, B2.out⟩
set_option maxHeartbeats 1000000 in
theorem most7_ok {w : World} {lots nm : ByteArray} {a ta : Option Addr} {n c tc k : Nat} {r m : Int} {os : List ByteArray} {tl : List Int} (hw : wc n r (k : Int) = 0) (ho : F.SAt w a os) (hf : Fit lots nm os) (hn : os.length = n) (hT : F.Tabs w) (hS : F.Starts w) (hl : tl.length = n) (hL : IL w ta tl) (hg : tl.any (fun x => decide (x < 0)) = false) :
    Calls Tryd.prog 7 #[CV nm a n c r (k : Int) m, .slice ta tl.length tc, .string lots] w fun e w' => (∃ v R, e = .returned (.tuple #[v, .int .i64 0]) ∧ Best (fun x => tl.getD x 0) (rl (ltL lots nm os) n) R ∧ LS w' v (zi (R.take k))) ∧ Below w.heap.size w w' := by
  have H : Hid (∀ W, Calls Tryd.prog 9 #[.agg #[.string nm, .slice a n c, .int .i64 r, .int .i64 (k : Int), .int .i64 m]] W fun e w' => e = .returned (.int .i64 0) ∧ Below W.heap.size W w') := fun W => by have := wrong9 nm a n c r k m W; rw [hw] at this; exact this
  obtain ⟨⟨n1, n12⟩, _, k1, k2⟩ := wc_fits hw
  obtain ⟨bt, ot, rfl, hc9⟩ := hL 0 (by omega)
  have CN : Hid (∀ W, Below w.heap.size w W → Calls Tryd.prog 13 #[.slice (some ⟨bt, ot, none⟩) n tc, .func (.func 14) #[] #[]] W fun e w' => e = .returned (.bool false) ∧ Below W.heap.size W w') := fun W hW => by
    have q := contains13 (c := tc) hl (by omega) (hL.of_below hW)
    rw [hg] at q; exact q
  have MO : Hid (∀ W, Below w.heap.size w W → Calls Tryd.prog 15 #[.agg #[.string nm, .slice a n c, .int .i64 r, .int .i64 (k : Int), .int .i64 m], .slice (some ⟨bt, ot, none⟩) n tc, .string lots] W fun e w' => (∃ v R, e = .returned v ∧ Best (fun x => tl.getD x 0) (rl (ltL lots nm os) n) R ∧ LS w' v (zi (R.take k))) ∧ Below W.heap.size W w') := fun W hW => most15 hf (SAt.keep ho hW) hn ⟨n1, n12⟩ (by omega) (hT.of_below hW hT.size) (hS.of_below hW hT.size) (hL.of_below hW) hl
  rw [hl]
  clear hc9 ho hf hn hT hS hw hL hg hl k1 k2
  unfold CV
  generalize rl (ltL lots nm os) n = D at *
  have B : Hid (Below w.heap.size w (w.alloc (.cells #[.string nm, .slice a n c, .int .i64 r, .int .i64 (k : Int), .int .i64 m] 24))) := (Below.refl _ _).alloc (Nat.le_refl _) _
  have I0 : Hid (IHolds (w.alloc (.cells #[.string nm, .slice a n c, .int .i64 r, .int .i64 (k : Int), .int .i64 m] 24)) w.heap.size 24 [.string nm, .slice a n c, .int .i64 r, .int .i64 (k : Int), .int .i64 m]) := IHolds.new w 24 _
  go_enter Tryd.func7, Tryd.ntmps7
  go_wp2_with (first
    | (go_at_call 9; refine (H.out _).mono ?_; rintro e w1 ⟨rfl, hB⟩; have B1 : Hid (Below w.heap.size w w1) := B.out.trans (hB.mono B.out.size); have I1 : Hid (IHolds w1 w.heap.size 24 [.string nm, .slice a n c, .int .i64 r, .int .i64 (k : Int), .int .i64 m]) := I0.out.of_below hB; obtain ⟨k0, k1, k2, k3, k4⟩ := five I1.out; clear hB H I0)
    | (go_at_call 13; refine (CN.out _ B1.out).mono ?_; rintro e w2 ⟨rfl, hB⟩; have B2 : Hid (Below w.heap.size w w2) := B1.out.trans (hB.mono B1.out.size); have I2 : Hid (IHolds w2 w.heap.size 24 [.string nm, .slice a n c, .int .i64 r, .int .i64 (k : Int), .int .i64 m]) := I1.out.of_below hB; clear k0 k1 k2 k3 k4; obtain ⟨k0, k1, k2, k3, k4⟩ := five I2.out; clear hB CN I1)
    | (go_at_call 15; refine (MO.out _ B2.out).mono ?_; rintro e w3 ⟨⟨v, R, rfl, h1, h2⟩, hB⟩; have B3 : Hid (Below w.heap.size w w3) := B2.out.trans (hB.mono B2.out.size); have R3 : Hid (Best (fun x => tl.getD x 0) D R) := h1; have L3 : Hid (LS w3 v (zi (R.take k))) := h2; clear hB h1 h2 MO)
    | fail)
  exact bodyPost_ret (v := .tuple #[v, .int .i64 0]) (by simp [results, Tryd.results7, go_sem]) rfl ⟨⟨v, R, rfl, R3.out, L3.out⟩, B3.out⟩
set_option maxHeartbeats 1000000 in
theorem most8_w {w : World} {lots nm : ByteArray} {a ta : Option Addr} {n c tc tn : Nat} {r s m : Int} (hw : wc n r s = 2) :
    Calls Tryd.prog 8 #[CV nm a n c r s m, .slice ta tn tc, .string lots] w fun e w' => e = .returned (.tuple #[.slice none 0 0, .int .i64 2]) ∧ Below w.heap.size w w' := by
  have H : Hid (∀ W, Calls Tryd.prog 5 #[.agg #[.string nm, .slice a n c, .int .i64 r, .int .i64 s, .int .i64 m], .string lots] W fun e w' => e = .returned (.tuple #[.slice none 0 0, .int .i64 2]) ∧ Below W.heap.size W w') := fun W => lots5_bad hw
  clear hw
  unfold CV
  have B : Hid (Below w.heap.size w (w.alloc (.cells #[.string nm, .slice a n c, .int .i64 r, .int .i64 s, .int .i64 m] 24))) := (Below.refl _ _).alloc (Nat.le_refl _) _
  go_enter Tryd.func8, Tryd.ntmps8
  go_wp2_with (first
    | (go_at_call 5; refine (H.out _).mono ?_; rintro e w1 ⟨rfl, hB⟩; have B1 : Hid (Below w.heap.size w w1) := B.out.trans (hB.mono B.out.size); clear hB H)
    | fail)
  go_ret2
  exact ⟨rfl, B1.out⟩
set_option maxHeartbeats 1000000 in
theorem most8_l {w : World} {lots nm : ByteArray} {a ta : Option Addr} {n c tc tn : Nat} {r s m : Int} {os : List ByteArray} (hw : wc n r s = 0) (ho : F.SAt w a os) (hf : Fit lots nm os) (hn : os.length = n) (hl : tn ≠ n) :
    Calls Tryd.prog 8 #[CV nm a n c r s m, .slice ta tn tc, .string lots] w fun e w' => e = .returned (.tuple #[.slice none 0 0, .int .i64 2]) ∧ Below w.heap.size w w' := by
  have H : Hid (∀ W, Below w.heap.size w W → Calls Tryd.prog 5 #[.agg #[.string nm, .slice a n c, .int .i64 r, .int .i64 s, .int .i64 m], .string lots] W fun e w' => (∃ v, e = .returned (.tuple #[v, .int .i64 0])) ∧ Below W.heap.size W w') := fun W hW => (lots5_ok (c := c) (r := r) (s := s) (m := m) hf (SAt.keep ho hW) hn hw).mono (by rintro e w' ⟨⟨v, rfl, _⟩, hB⟩; exact ⟨⟨v, rfl⟩, hB⟩)
  have c1 : ((tn : Int) != (n : Int)) = true := by simp; omega
  clear hw ho hf hn hl
  unfold CV
  have B : Hid (Below w.heap.size w (w.alloc (.cells #[.string nm, .slice a n c, .int .i64 r, .int .i64 s, .int .i64 m] 24))) := (Below.refl _ _).alloc (Nat.le_refl _) _
  have I0 : Hid (IHolds (w.alloc (.cells #[.string nm, .slice a n c, .int .i64 r, .int .i64 s, .int .i64 m] 24)) w.heap.size 24 [.string nm, .slice a n c, .int .i64 r, .int .i64 s, .int .i64 m]) := IHolds.new w 24 _
  go_enter Tryd.func8, Tryd.ntmps8
  go_wp2_with (first
    | (go_at_call 5; refine (H.out _ B.out).mono ?_; rintro e w1 ⟨⟨v, rfl⟩, hB⟩; have B1 : Hid (Below w.heap.size w w1) := B.out.trans (hB.mono B.out.size); have I1 : Hid (IHolds w1 w.heap.size 24 [.string nm, .slice a n c, .int .i64 r, .int .i64 s, .int .i64 m]) := I0.out.of_below hB; obtain ⟨k0, k1, k2, k3, k4⟩ := five I1.out; clear hB H I0)
    | fail)
  go_ret2
  exact ⟨rfl, B1.out⟩
end Go.Proofs.YtmdffdcglpbcpaaDoor
