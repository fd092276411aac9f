/- The document's Hand: act 4. -/
import Derived.Test.YtafekaonmpkhiaaEd
set_option linter.unusedSimpArgs false
set_option linter.unusedVariables false
set_option maxRecDepth 100000
namespace Go.Proofs.Ytafekaonmpkhiaa
open Go.RowKit Go.Shelf Go.Deep Go.PlainAid Go.Maps Go.WideMaps

set_option maxHeartbeats 16000000 in
theorem hand6_4 {l : List Hd} {box who to_ sl : ByteArray} {cnt : Int} {w : World} {v : Value} (hl : HLs w v l) (hs : Hs ⟨4, box, who, to_, cnt, sl⟩) (hn : l.length < 140737488355328) :
    Calls Try.prog 6 #[v, .agg #[.int .i64 4, .string box, .string who, .string to_, .int .i64 cnt, .string sl]] w fun e w' => e = .returned (.int .i64 (handC l (⟨4, box, who, to_, cnt, sl⟩ : Hd))) ∧ Below w.heap.size w w' := by
  have HF : Hid (formC (⟨4, box, who, to_, cnt, sl⟩ : Hd) = if mfB false (⟨4, box, who, to_, cnt, sl⟩ : Hd) = true then 2 else if mcB true cnt = true then 4 else 0) := form_4 (h := (⟨4, box, who, to_, cnt, sl⟩ : Hd)) rfl
  cases b_box : wordB box with
  | false =>
    have HZ : Hid (handC l (⟨4, box, who, to_, cnt, sl⟩ : Hd) = 2) := handC_form (by rw [HF.out, if_pos (show mfB false (⟨4, box, who, to_, cnt, sl⟩ : Hd) = true by simp [mfB, wordIfB, b_box])]) (by decide)
    have W_box : Hid (∀ V, Calls Try.prog 13 #[.string box] V fun e w' => e = .returned (.bool false) ∧ Below V.heap.size V w') := fun V => by have q := word13 hs.b V; rw [show wordB box = false from b_box] at q; exact q
    clear HF hs hl
    generalize handC l (⟨4, box, who, to_, cnt, sl⟩ : Hd) = z at *
    clear b_box
    have B : Hid (Below w.heap.size w (w.alloc (.cells #[.int .i64 4, .string box, .string who, .string to_, .int .i64 cnt, .string sl] 26))) := (Below.refl _ _).alloc (Nat.le_refl _) _
    have J : Hid (IHolds (w.alloc (.cells #[.int .i64 4, .string box, .string who, .string to_, .int .i64 cnt, .string sl] 26)) w.heap.size 26 [.int .i64 4, .string box, .string who, .string to_, .int .i64 cnt, .string sl]) := IHolds.new w 26 _
    go_enter Try.func6, Try.ntmps6
    go_wp2_with (go_at_call 13; refine (W_box.out _).mono ?_)
    rintro e w1 ⟨rfl, hB⟩
    have B_ : Hid (Below w.heap.size w w1) := B.out.trans (hB.mono B.out.size)
    have J_ : Hid (IHolds w1 w.heap.size 26 [.int .i64 4, .string box, .string who, .string to_, .int .i64 cnt, .string sl]) := J.out.of_below hB
    clear B J hB W_box
    have B : Hid (Below w.heap.size w w1) := B_.out
    have J : Hid (IHolds w1 w.heap.size 26 [.int .i64 4, .string box, .string who, .string to_, .int .i64 cnt, .string sl]) := J_.out
    obtain ⟨p0, p1, p2, p3, p4, p5⟩ := six J.out
    clear B_ J_
    go_wp2_with fail
    go_ret
    exact ⟨by (rw [HZ.out]; rfl), B.out⟩
  | true =>
    cases b_who : wordB who with
    | false =>
      have HZ : Hid (handC l (⟨4, box, who, to_, cnt, sl⟩ : Hd) = 2) := handC_form (by rw [HF.out, if_pos (show mfB false (⟨4, box, who, to_, cnt, sl⟩ : Hd) = true by simp [mfB, wordIfB, b_who])]) (by decide)
      have W_box : Hid (∀ V, Calls Try.prog 13 #[.string box] V fun e w' => e = .returned (.bool true) ∧ Below V.heap.size V w') := fun V => by have q := word13 hs.b V; rw [show wordB box = true from b_box] at q; exact q
      have W_who : Hid (∀ V, Calls Try.prog 13 #[.string who] V fun e w' => e = .returned (.bool false) ∧ Below V.heap.size V w') := fun V => by have q := word13 hs.w V; rw [show wordB who = false from b_who] at q; exact q
      clear HF hs hl
      generalize handC l (⟨4, box, who, to_, cnt, sl⟩ : Hd) = z at *
      clear b_box b_who
      have B : Hid (Below w.heap.size w (w.alloc (.cells #[.int .i64 4, .string box, .string who, .string to_, .int .i64 cnt, .string sl] 26))) := (Below.refl _ _).alloc (Nat.le_refl _) _
      have J : Hid (IHolds (w.alloc (.cells #[.int .i64 4, .string box, .string who, .string to_, .int .i64 cnt, .string sl] 26)) w.heap.size 26 [.int .i64 4, .string box, .string who, .string to_, .int .i64 cnt, .string sl]) := IHolds.new w 26 _
      go_enter Try.func6, Try.ntmps6
      go_wp2_with (go_at_call 13; refine (W_box.out _).mono ?_)
      rintro e w1 ⟨rfl, hB⟩
      have B_ : Hid (Below w.heap.size w w1) := B.out.trans (hB.mono B.out.size)
      have J_ : Hid (IHolds w1 w.heap.size 26 [.int .i64 4, .string box, .string who, .string to_, .int .i64 cnt, .string sl]) := J.out.of_below hB
      clear B J hB W_box
      have B : Hid (Below w.heap.size w w1) := B_.out
      have J : Hid (IHolds w1 w.heap.size 26 [.int .i64 4, .string box, .string who, .string to_, .int .i64 cnt, .string sl]) := J_.out
      obtain ⟨p0, p1, p2, p3, p4, p5⟩ := six J.out
      clear B_ J_
      go_wp2_with (go_at_call 13; refine (W_who.out _).mono ?_)
      rintro e w2 ⟨rfl, hB⟩
      have B_ : Hid (Below w.heap.size w w2) := B.out.trans (hB.mono B.out.size)
      have J_ : Hid (IHolds w2 w.heap.size 26 [.int .i64 4, .string box, .string who, .string to_, .int .i64 cnt, .string sl]) := J.out.of_below hB
      clear B J hB W_who p0 p1 p2 p3 p4 p5
      have B : Hid (Below w.heap.size w w2) := B_.out
      have J : Hid (IHolds w2 w.heap.size 26 [.int .i64 4, .string box, .string who, .string to_, .int .i64 cnt, .string sl]) := J_.out
      obtain ⟨p0, p1, p2, p3, p4, p5⟩ := six J.out
      clear B_ J_
      go_wp2_with fail
      go_ret
      exact ⟨by (rw [HZ.out]; rfl), B.out⟩
    | true =>
      by_cases c : to_ = ⟨#[]⟩
      · have c0 := c
        cases b_sl : wordB sl with
        | false =>
          have HZ : Hid (handC l (⟨4, box, who, to_, cnt, sl⟩ : Hd) = 2) := handC_form (by rw [HF.out, if_pos (show mfB false (⟨4, box, who, to_, cnt, sl⟩ : Hd) = true by simp [mfB, wordIfB, b_sl])]) (by decide)
          have W_box : Hid (∀ V, Calls Try.prog 13 #[.string box] V fun e w' => e = .returned (.bool true) ∧ Below V.heap.size V w') := fun V => by have q := word13 hs.b V; rw [show wordB box = true from b_box] at q; exact q
          have W_who : Hid (∀ V, Calls Try.prog 13 #[.string who] V fun e w' => e = .returned (.bool true) ∧ Below V.heap.size V w') := fun V => by have q := word13 hs.w V; rw [show wordB who = true from b_who] at q; exact q
          have W_sl : Hid (∀ V, Calls Try.prog 13 #[.string sl] V fun e w' => e = .returned (.bool false) ∧ Below V.heap.size V w') := fun V => by have q := word13 hs.s V; rw [show wordB sl = false from b_sl] at q; exact q
          clear HF hs hl
          generalize handC l (⟨4, box, who, to_, cnt, sl⟩ : Hd) = z at *
          clear b_box b_who b_sl
          subst c
          clear c0
          have B : Hid (Below w.heap.size w (w.alloc (.cells #[.int .i64 4, .string box, .string who, .string ⟨#[]⟩, .int .i64 cnt, .string sl] 26))) := (Below.refl _ _).alloc (Nat.le_refl _) _
          have J : Hid (IHolds (w.alloc (.cells #[.int .i64 4, .string box, .string who, .string ⟨#[]⟩, .int .i64 cnt, .string sl] 26)) w.heap.size 26 [.int .i64 4, .string box, .string who, .string ⟨#[]⟩, .int .i64 cnt, .string sl]) := IHolds.new w 26 _
          go_enter Try.func6, Try.ntmps6
          go_wp2_with (go_at_call 13; refine (W_box.out _).mono ?_)
          rintro e w1 ⟨rfl, hB⟩
          have B_ : Hid (Below w.heap.size w w1) := B.out.trans (hB.mono B.out.size)
          have J_ : Hid (IHolds w1 w.heap.size 26 [.int .i64 4, .string box, .string who, .string ⟨#[]⟩, .int .i64 cnt, .string sl]) := J.out.of_below hB
          clear B J hB W_box
          have B : Hid (Below w.heap.size w w1) := B_.out
          have J : Hid (IHolds w1 w.heap.size 26 [.int .i64 4, .string box, .string who, .string ⟨#[]⟩, .int .i64 cnt, .string sl]) := J_.out
          obtain ⟨p0, p1, p2, p3, p4, p5⟩ := six J.out
          clear B_ J_
          go_wp2_with (go_at_call 13; refine (W_who.out _).mono ?_)
          rintro e w2 ⟨rfl, hB⟩
          have B_ : Hid (Below w.heap.size w w2) := B.out.trans (hB.mono B.out.size)
          have J_ : Hid (IHolds w2 w.heap.size 26 [.int .i64 4, .string box, .string who, .string ⟨#[]⟩, .int .i64 cnt, .string sl]) := J.out.of_below hB
          clear B J hB W_who p0 p1 p2 p3 p4 p5
          have B : Hid (Below w.heap.size w w2) := B_.out
          have J : Hid (IHolds w2 w.heap.size 26 [.int .i64 4, .string box, .string who, .string ⟨#[]⟩, .int .i64 cnt, .string sl]) := J_.out
          obtain ⟨p0, p1, p2, p3, p4, p5⟩ := six J.out
          clear B_ J_
          go_wp2_with (go_at_call 13; refine (W_sl.out _).mono ?_)
          rintro e w3 ⟨rfl, hB⟩
          have B_ : Hid (Below w.heap.size w w3) := B.out.trans (hB.mono B.out.size)
          have J_ : Hid (IHolds w3 w.heap.size 26 [.int .i64 4, .string box, .string who, .string ⟨#[]⟩, .int .i64 cnt, .string sl]) := J.out.of_below hB
          clear B J hB W_sl p0 p1 p2 p3 p4 p5
          have B : Hid (Below w.heap.size w w3) := B_.out
          have J : Hid (IHolds w3 w.heap.size 26 [.int .i64 4, .string box, .string who, .string ⟨#[]⟩, .int .i64 cnt, .string sl]) := J_.out
          obtain ⟨p0, p1, p2, p3, p4, p5⟩ := six J.out
          clear B_ J_
          go_wp2_with fail
          go_ret
          exact ⟨by (rw [HZ.out]; rfl), B.out⟩
        | true =>
          by_cases k1 : cnt < 0
          · have d1 : decide (cnt < 0) = true := by simpa using k1
            have mc : mcB true cnt = true := by simp [mcB]; omega
            have HZ : Hid (handC l (⟨4, box, who, to_, cnt, sl⟩ : Hd) = 4) := handC_form (by rw [HF.out, if_neg (show ¬ mfB false (⟨4, box, who, to_, cnt, sl⟩ : Hd) = true by simp [mfB, wordIfB, b_box, b_who, b_sl, c0]), if_pos mc]) (by decide)
            have W_box : Hid (∀ V, Calls Try.prog 13 #[.string box] V fun e w' => e = .returned (.bool true) ∧ Below V.heap.size V w') := fun V => by have q := word13 hs.b V; rw [show wordB box = true from b_box] at q; exact q
            have W_who : Hid (∀ V, Calls Try.prog 13 #[.string who] V fun e w' => e = .returned (.bool true) ∧ Below V.heap.size V w') := fun V => by have q := word13 hs.w V; rw [show wordB who = true from b_who] at q; exact q
            have W_sl : Hid (∀ V, Calls Try.prog 13 #[.string sl] V fun e w' => e = .returned (.bool true) ∧ Below V.heap.size V w') := fun V => by have q := word13 hs.s V; rw [show wordB sl = true from b_sl] at q; exact q
            clear HF hs hl
            generalize handC l (⟨4, box, who, to_, cnt, sl⟩ : Hd) = z at *
            clear b_box b_who b_sl 
            subst c
            clear c0
            clear mc k1
            have B : Hid (Below w.heap.size w (w.alloc (.cells #[.int .i64 4, .string box, .string who, .string ⟨#[]⟩, .int .i64 cnt, .string sl] 26))) := (Below.refl _ _).alloc (Nat.le_refl _) _
            have J : Hid (IHolds (w.alloc (.cells #[.int .i64 4, .string box, .string who, .string ⟨#[]⟩, .int .i64 cnt, .string sl] 26)) w.heap.size 26 [.int .i64 4, .string box, .string who, .string ⟨#[]⟩, .int .i64 cnt, .string sl]) := IHolds.new w 26 _
            go_enter Try.func6, Try.ntmps6
            go_wp2_with (go_at_call 13; refine (W_box.out _).mono ?_)
            rintro e w1 ⟨rfl, hB⟩
            have B_ : Hid (Below w.heap.size w w1) := B.out.trans (hB.mono B.out.size)
            have J_ : Hid (IHolds w1 w.heap.size 26 [.int .i64 4, .string box, .string who, .string ⟨#[]⟩, .int .i64 cnt, .string sl]) := J.out.of_below hB
            clear B J hB W_box
            have B : Hid (Below w.heap.size w w1) := B_.out
            have J : Hid (IHolds w1 w.heap.size 26 [.int .i64 4, .string box, .string who, .string ⟨#[]⟩, .int .i64 cnt, .string sl]) := J_.out
            obtain ⟨p0, p1, p2, p3, p4, p5⟩ := six J.out
            clear B_ J_
            go_wp2_with (go_at_call 13; refine (W_who.out _).mono ?_)
            rintro e w2 ⟨rfl, hB⟩
            have B_ : Hid (Below w.heap.size w w2) := B.out.trans (hB.mono B.out.size)
            have J_ : Hid (IHolds w2 w.heap.size 26 [.int .i64 4, .string box, .string who, .string ⟨#[]⟩, .int .i64 cnt, .string sl]) := J.out.of_below hB
            clear B J hB W_who p0 p1 p2 p3 p4 p5
            have B : Hid (Below w.heap.size w w2) := B_.out
            have J : Hid (IHolds w2 w.heap.size 26 [.int .i64 4, .string box, .string who, .string ⟨#[]⟩, .int .i64 cnt, .string sl]) := J_.out
            obtain ⟨p0, p1, p2, p3, p4, p5⟩ := six J.out
            clear B_ J_
            go_wp2_with (go_at_call 13; refine (W_sl.out _).mono ?_)
            rintro e w3 ⟨rfl, hB⟩
            have B_ : Hid (Below w.heap.size w w3) := B.out.trans (hB.mono B.out.size)
            have J_ : Hid (IHolds w3 w.heap.size 26 [.int .i64 4, .string box, .string who, .string ⟨#[]⟩, .int .i64 cnt, .string sl]) := J.out.of_below hB
            clear B J hB W_sl p0 p1 p2 p3 p4 p5
            have B : Hid (Below w.heap.size w w3) := B_.out
            have J : Hid (IHolds w3 w.heap.size 26 [.int .i64 4, .string box, .string who, .string ⟨#[]⟩, .int .i64 cnt, .string sl]) := J_.out
            obtain ⟨p0, p1, p2, p3, p4, p5⟩ := six J.out
            clear B_ J_
            go_wp2_with fail
            go_ret
            exact ⟨by (rw [HZ.out]; rfl), B.out⟩
          · have d1 : decide (cnt < 0) = false := by simpa using k1
            by_cases k2 : 1048576 < cnt
            · have d2 : decide (1048576 < cnt) = true := by simpa using k2
              have mc : mcB true cnt = true := by simp [mcB]; omega
              have HZ : Hid (handC l (⟨4, box, who, to_, cnt, sl⟩ : Hd) = 4) := handC_form (by rw [HF.out, if_neg (show ¬ mfB false (⟨4, box, who, to_, cnt, sl⟩ : Hd) = true by simp [mfB, wordIfB, b_box, b_who, b_sl, c0]), if_pos mc]) (by decide)
              have W_box : Hid (∀ V, Calls Try.prog 13 #[.string box] V fun e w' => e = .returned (.bool true) ∧ Below V.heap.size V w') := fun V => by have q := word13 hs.b V; rw [show wordB box = true from b_box] at q; exact q
              have W_who : Hid (∀ V, Calls Try.prog 13 #[.string who] V fun e w' => e = .returned (.bool true) ∧ Below V.heap.size V w') := fun V => by have q := word13 hs.w V; rw [show wordB who = true from b_who] at q; exact q
              have W_sl : Hid (∀ V, Calls Try.prog 13 #[.string sl] V fun e w' => e = .returned (.bool true) ∧ Below V.heap.size V w') := fun V => by have q := word13 hs.s V; rw [show wordB sl = true from b_sl] at q; exact q
              clear HF hs hl
              generalize handC l (⟨4, box, who, to_, cnt, sl⟩ : Hd) = z at *
              clear b_box b_who b_sl 
              subst c
              clear c0
              clear mc k1 k2
              have B : Hid (Below w.heap.size w (w.alloc (.cells #[.int .i64 4, .string box, .string who, .string ⟨#[]⟩, .int .i64 cnt, .string sl] 26))) := (Below.refl _ _).alloc (Nat.le_refl _) _
              have J : Hid (IHolds (w.alloc (.cells #[.int .i64 4, .string box, .string who, .string ⟨#[]⟩, .int .i64 cnt, .string sl] 26)) w.heap.size 26 [.int .i64 4, .string box, .string who, .string ⟨#[]⟩, .int .i64 cnt, .string sl]) := IHolds.new w 26 _
              go_enter Try.func6, Try.ntmps6
              go_wp2_with (go_at_call 13; refine (W_box.out _).mono ?_)
              rintro e w1 ⟨rfl, hB⟩
              have B_ : Hid (Below w.heap.size w w1) := B.out.trans (hB.mono B.out.size)
              have J_ : Hid (IHolds w1 w.heap.size 26 [.int .i64 4, .string box, .string who, .string ⟨#[]⟩, .int .i64 cnt, .string sl]) := J.out.of_below hB
              clear B J hB W_box
              have B : Hid (Below w.heap.size w w1) := B_.out
              have J : Hid (IHolds w1 w.heap.size 26 [.int .i64 4, .string box, .string who, .string ⟨#[]⟩, .int .i64 cnt, .string sl]) := J_.out
              obtain ⟨p0, p1, p2, p3, p4, p5⟩ := six J.out
              clear B_ J_
              go_wp2_with (go_at_call 13; refine (W_who.out _).mono ?_)
              rintro e w2 ⟨rfl, hB⟩
              have B_ : Hid (Below w.heap.size w w2) := B.out.trans (hB.mono B.out.size)
              have J_ : Hid (IHolds w2 w.heap.size 26 [.int .i64 4, .string box, .string who, .string ⟨#[]⟩, .int .i64 cnt, .string sl]) := J.out.of_below hB
              clear B J hB W_who p0 p1 p2 p3 p4 p5
              have B : Hid (Below w.heap.size w w2) := B_.out
              have J : Hid (IHolds w2 w.heap.size 26 [.int .i64 4, .string box, .string who, .string ⟨#[]⟩, .int .i64 cnt, .string sl]) := J_.out
              obtain ⟨p0, p1, p2, p3, p4, p5⟩ := six J.out
              clear B_ J_
              go_wp2_with (go_at_call 13; refine (W_sl.out _).mono ?_)
              rintro e w3 ⟨rfl, hB⟩
              have B_ : Hid (Below w.heap.size w w3) := B.out.trans (hB.mono B.out.size)
              have J_ : Hid (IHolds w3 w.heap.size 26 [.int .i64 4, .string box, .string who, .string ⟨#[]⟩, .int .i64 cnt, .string sl]) := J.out.of_below hB
              clear B J hB W_sl p0 p1 p2 p3 p4 p5
              have B : Hid (Below w.heap.size w w3) := B_.out
              have J : Hid (IHolds w3 w.heap.size 26 [.int .i64 4, .string box, .string who, .string ⟨#[]⟩, .int .i64 cnt, .string sl]) := J_.out
              obtain ⟨p0, p1, p2, p3, p4, p5⟩ := six J.out
              clear B_ J_
              go_wp2_with fail
              go_ret
              exact ⟨by (rw [HZ.out]; rfl), B.out⟩
            · have d2 : decide (1048576 < cnt) = false := by simpa using k2
              have mc : ¬ mcB true cnt = true := by simp [mcB]; omega
              have HZ : Hid (handC l (⟨4, box, who, to_, cnt, sl⟩ : Hd) = hindR 4 (bx l box) (packs l).length (had l sl) who sl cnt) := (handC_hind (by rw [HF.out, if_neg (show ¬ mfB false (⟨4, box, who, to_, cnt, sl⟩ : Hd) = true by simp [mfB, wordIfB, b_box, b_who, b_sl, c0]), if_neg mc])).trans (hind_R l (⟨4, box, who, to_, cnt, sl⟩ : Hd))
              have W_box : Hid (∀ V, Calls Try.prog 13 #[.string box] V fun e w' => e = .returned (.bool true) ∧ Below V.heap.size V w') := fun V => by have q := word13 hs.b V; rw [show wordB box = true from b_box] at q; exact q
              have W_who : Hid (∀ V, Calls Try.prog 13 #[.string who] V fun e w' => e = .returned (.bool true) ∧ Below V.heap.size V w') := fun V => by have q := word13 hs.w V; rw [show wordB who = true from b_who] at q; exact q
              have W_sl : Hid (∀ V, Calls Try.prog 13 #[.string sl] V fun e w' => e = .returned (.bool true) ∧ Below V.heap.size V w') := fun V => by have q := word13 hs.s V; rw [show wordB sl = true from b_sl] at q; exact q
              obtain ⟨a, cc, rfl, -⟩ := id hl
              have HL : Hid (HLs w (.slice a l.length cc) l) := hl
              have HN : Hid (l.length < 140737488355328) := hn
              have PL : Hid ((packs l).length ≤ l.length) := packs_le l
              clear HF hs hl mc k1 k2
              generalize handC l (⟨4, box, who, to_, cnt, sl⟩ : Hd) = z at *
              clear b_box b_who b_sl 
              subst c
              clear c0
              have HC : Hid (∀ V, Below w.heap.size w V → Calls Try.prog 14 #[.slice a l.length cc, .string box] V fun e w' => e = .returned (BXV l box) ∧ Below V.heap.size V w') := fun V hV => box14 (HL.out.of_below hV) HN.out
              have B : Hid (Below w.heap.size w (w.alloc (.cells #[.int .i64 4, .string box, .string who, .string ⟨#[]⟩, .int .i64 cnt, .string sl] 26))) := (Below.refl _ _).alloc (Nat.le_refl _) _
              have J : Hid (IHolds (w.alloc (.cells #[.int .i64 4, .string box, .string who, .string ⟨#[]⟩, .int .i64 cnt, .string sl] 26)) w.heap.size 26 [.int .i64 4, .string box, .string who, .string ⟨#[]⟩, .int .i64 cnt, .string sl]) := IHolds.new w 26 _
              go_enter Try.func6, Try.ntmps6
              go_wp2_with (go_at_call 13; refine (W_box.out _).mono ?_)
              rintro e w1 ⟨rfl, hB⟩
              have B_ : Hid (Below w.heap.size w w1) := B.out.trans (hB.mono B.out.size)
              have J_ : Hid (IHolds w1 w.heap.size 26 [.int .i64 4, .string box, .string who, .string ⟨#[]⟩, .int .i64 cnt, .string sl]) := J.out.of_below hB
              clear B J hB W_box
              have B : Hid (Below w.heap.size w w1) := B_.out
              have J : Hid (IHolds w1 w.heap.size 26 [.int .i64 4, .string box, .string who, .string ⟨#[]⟩, .int .i64 cnt, .string sl]) := J_.out
              obtain ⟨p0, p1, p2, p3, p4, p5⟩ := six J.out
              clear B_ J_
              go_wp2_with (go_at_call 13; refine (W_who.out _).mono ?_)
              rintro e w2 ⟨rfl, hB⟩
              have B_ : Hid (Below w.heap.size w w2) := B.out.trans (hB.mono B.out.size)
              have J_ : Hid (IHolds w2 w.heap.size 26 [.int .i64 4, .string box, .string who, .string ⟨#[]⟩, .int .i64 cnt, .string sl]) := J.out.of_below hB
              clear B J hB W_who p0 p1 p2 p3 p4 p5
              have B : Hid (Below w.heap.size w w2) := B_.out
              have J : Hid (IHolds w2 w.heap.size 26 [.int .i64 4, .string box, .string who, .string ⟨#[]⟩, .int .i64 cnt, .string sl]) := J_.out
              obtain ⟨p0, p1, p2, p3, p4, p5⟩ := six J.out
              clear B_ J_
              go_wp2_with (go_at_call 13; refine (W_sl.out _).mono ?_)
              rintro e w3 ⟨rfl, hB⟩
              have B_ : Hid (Below w.heap.size w w3) := B.out.trans (hB.mono B.out.size)
              have J_ : Hid (IHolds w3 w.heap.size 26 [.int .i64 4, .string box, .string who, .string ⟨#[]⟩, .int .i64 cnt, .string sl]) := J.out.of_below hB
              clear B J hB W_sl p0 p1 p2 p3 p4 p5
              have B : Hid (Below w.heap.size w w3) := B_.out
              have J : Hid (IHolds w3 w.heap.size 26 [.int .i64 4, .string box, .string who, .string ⟨#[]⟩, .int .i64 cnt, .string sl]) := J_.out
              obtain ⟨p0, p1, p2, p3, p4, p5⟩ := six J.out
              clear B_ J_
              go_wp2_with (go_at_call 14; refine (HC.out _ B.out).mono ?_)
              rintro e w4 ⟨rfl, hB⟩
              have B_ : Hid (Below w.heap.size w w4) := B.out.trans (hB.mono B.out.size)
              have J_ : Hid (IHolds w4 w.heap.size 26 [.int .i64 4, .string box, .string who, .string ⟨#[]⟩, .int .i64 cnt, .string sl]) := J.out.of_below hB
              clear B J hB HC p0 p1 p2 p3 p4 p5
              unfold BXV cellsB nmR
              have HB9 : Hid (∀ np u, np = (packs l).length → u = had l sl → z = hindR 4 (bx l box) np u who sl cnt) := fun np u e1 e2 => by rw [e1, e2]; exact HZ.out
              clear HZ
              generalize bx l box = r at *
              obtain ⟨ok, count, holder, slr, under, opn⟩ := r
              dsimp only
              generalize (if ok = true then box else (⟨#[]⟩ : ByteArray)) = nm
              have B : Hid (Below w.heap.size w (w4.alloc (.cells #[.string nm, .int .i64 count, .string holder, .string slr] 38))) := B_.out.alloc B_.out.size _
              have J : Hid (IHolds (w4.alloc (.cells #[.string nm, .int .i64 count, .string holder, .string slr] 38)) w.heap.size 26 [.int .i64 4, .string box, .string who, .string ⟨#[]⟩, .int .i64 cnt, .string sl]) := J_.out.alloc _
              have I : Hid (IHolds (w4.alloc (.cells #[.string nm, .int .i64 count, .string holder, .string slr] 38)) w4.heap.size 38 [.string nm, .int .i64 count, .string holder, .string slr]) := IHolds.new w4 38 _
              clear B_ J_
              have L5 : Hid (HLs (w4.alloc (.cells #[.string nm, .int .i64 count, .string holder, .string slr] 38)) (.slice a l.length cc) l) := HL.out.of_below B.out
              go_upto_block 0 with fail
              refine lo6_wp (h := ⟨4, box, who, ⟨#[]⟩, cnt, sl⟩) L5.out J.out HN.out ?_
              intro y14 y106 y107 y108 y109 y110 y111 y112 y113 y114 y115 y116 y117 y118 y119 y120 y121 y122 y123 y124 y125 y126 y127 y128 y129 y130 y131 y132 y133 X hX
              have BX : Hid (Below w.heap.size w X) := B.out.trans (hX.mono B.out.size)
              obtain ⟨p0, p1, p2, p3, p4, p5⟩ := six (J.out.of_below hX)
              have r1 := (I.out.of_below hX).cell 1 (by simp)
              have r2 := (I.out.of_below hX).cell 2 (by simp)
              have r3 := (I.out.of_below hX).cell 3 (by simp)
              have HB0 := HB9.out _ _ rfl rfl
              have NP : (packs l).length < 140737488355328 := by have := PL.out; have := HN.out; omega
              clear J I L5 B hX HL HB9 PL
              generalize (packs l).length = np at *
              generalize had l sl = u at *
              have HB0' : Hid _ := HB0
              clear HB0
              have HB0 : Hid (z = hindR 4 ⟨ok, count, holder, slr, under, opn⟩ np u who sl cnt) := HB0'.out
              clear HB0'
              cases ok with
              | false =>
                have HZ : Hid (z = 9) := HB0.out.trans (by simp [hindR])
                clear HB0
                go_wp2_with fail
                go_ret
                exact ⟨by (rw [HZ.out]; rfl), BX.out⟩
              | true =>
                by_cases q1 : under = ⟨#[]⟩
                · subst q1
                  cases opn with
                  | true =>
                    have HZ : Hid (z = 11) := HB0.out.trans (by simp [hindR])
                    clear HB0
                    go_wp2_with fail
                    go_ret
                    exact ⟨by (rw [HZ.out]; rfl), BX.out⟩
                  | false =>
                    by_cases q2 : who = holder
                    · subst q2
                      by_cases q4 : sl = slr
                      · subst q4
                        by_cases q8 : cnt = count
                        · subst q8
                          have HZ : Hid (z = 0) := HB0.out.trans (by simp [hindR])
                          clear HB0
                          go_wp2_with fail
                          go_ret
                          exact ⟨by (rw [HZ.out]; rfl), BX.out⟩
                        · have q9 : (cnt == count) = false := by simpa using q8
                          have HZ : Hid (z = 8) := HB0.out.trans (by simp [hindR, q8])
                          clear HB0 q8
                          go_wp2_with fail
                          go_ret
                          exact ⟨by (rw [HZ.out]; rfl), BX.out⟩
                      · have q5 := str_ne q4
                        have HZ : Hid (z = 8) := HB0.out.trans (by simp [hindR, q4])
                        clear HB0 q4
                        go_wp2_with fail
                        go_ret
                        exact ⟨by (rw [HZ.out]; rfl), BX.out⟩
                    · have q3 := str_ne q2
                      have HZ : Hid (z = 12) := HB0.out.trans (by simp [hindR, q2])
                      clear HB0 q2
                      go_wp2_with fail
                      go_ret
                      exact ⟨by (rw [HZ.out]; rfl), BX.out⟩
                · have q6 := str_ne q1
                  have q7 := str_nil q1
                  have HZ : Hid (z = 11) := HB0.out.trans (by simp [hindR, q1])
                  clear HB0 q1
                  go_wp2_with fail
                  go_ret
                  exact ⟨by (rw [HZ.out]; rfl), BX.out⟩
      · have c1 := str_ne c
        have c2 := str_nil c
        have c3 : decide (to_ = ⟨#[]⟩) = false := by simp [c]
        have HZ : Hid (handC l (⟨4, box, who, to_, cnt, sl⟩ : Hd) = 2) := handC_form (by rw [HF.out, if_pos (show mfB false (⟨4, box, who, to_, cnt, sl⟩ : Hd) = true by simp [mfB, wordIfB, c3])]) (by decide)
        have W_box : Hid (∀ V, Calls Try.prog 13 #[.string box] V fun e w' => e = .returned (.bool true) ∧ Below V.heap.size V w') := fun V => by have q := word13 hs.b V; rw [show wordB box = true from b_box] at q; exact q
        have W_who : Hid (∀ V, Calls Try.prog 13 #[.string who] V fun e w' => e = .returned (.bool true) ∧ Below V.heap.size V w') := fun V => by have q := word13 hs.w V; rw [show wordB who = true from b_who] at q; exact q
        clear HF hs hl
        generalize handC l (⟨4, box, who, to_, cnt, sl⟩ : Hd) = z at *
        clear b_box b_who c c3
        have B : Hid (Below w.heap.size w (w.alloc (.cells #[.int .i64 4, .string box, .string who, .string to_, .int .i64 cnt, .string sl] 26))) := (Below.refl _ _).alloc (Nat.le_refl _) _
        have J : Hid (IHolds (w.alloc (.cells #[.int .i64 4, .string box, .string who, .string to_, .int .i64 cnt, .string sl] 26)) w.heap.size 26 [.int .i64 4, .string box, .string who, .string to_, .int .i64 cnt, .string sl]) := IHolds.new w 26 _
        go_enter Try.func6, Try.ntmps6
        go_wp2_with (go_at_call 13; refine (W_box.out _).mono ?_)
        rintro e w1 ⟨rfl, hB⟩
        have B_ : Hid (Below w.heap.size w w1) := B.out.trans (hB.mono B.out.size)
        have J_ : Hid (IHolds w1 w.heap.size 26 [.int .i64 4, .string box, .string who, .string to_, .int .i64 cnt, .string sl]) := J.out.of_below hB
        clear B J hB W_box
        have B : Hid (Below w.heap.size w w1) := B_.out
        have J : Hid (IHolds w1 w.heap.size 26 [.int .i64 4, .string box, .string who, .string to_, .int .i64 cnt, .string sl]) := J_.out
        obtain ⟨p0, p1, p2, p3, p4, p5⟩ := six J.out
        clear B_ J_
        go_wp2_with (go_at_call 13; refine (W_who.out _).mono ?_)
        rintro e w2 ⟨rfl, hB⟩
        have B_ : Hid (Below w.heap.size w w2) := B.out.trans (hB.mono B.out.size)
        have J_ : Hid (IHolds w2 w.heap.size 26 [.int .i64 4, .string box, .string who, .string to_, .int .i64 cnt, .string sl]) := J.out.of_below hB
        clear B J hB W_who p0 p1 p2 p3 p4 p5
        have B : Hid (Below w.heap.size w w2) := B_.out
        have J : Hid (IHolds w2 w.heap.size 26 [.int .i64 4, .string box, .string who, .string to_, .int .i64 cnt, .string sl]) := J_.out
        obtain ⟨p0, p1, p2, p3, p4, p5⟩ := six J.out
        clear B_ J_
        go_wp2_with fail
        go_ret
        exact ⟨by (rw [HZ.out]; rfl), B.out⟩
end Go.Proofs.Ytafekaonmpkhiaa
