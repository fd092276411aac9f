/- Smith, the program's. Small functions of Pairs. -/
import Derived.Test.YtkcnpcjogfhkbaaGreatDoorZ20
import Derived.Deep.Cut
import Derived.Lib.SliceRun
set_option linter.unusedSimpArgs false
set_option linter.unusedVariables false
set_option maxRecDepth 100000
namespace Go.Proofs.YtkcnpcjogfhkbaaGreatDoor
open Go.RowKit Go.Deep Go.PlainAid

/-- The least set so far. -/
structure BS (P : Mt) (n i : Nat) (f : Nat → Bool) : Prop where
  dom : Dom P n f
  pos : 0 < (lst n f).length
  few : ∀ k, k < i → ∀ g, Dom P n g → g k = true → (lst n f).length ≤ (lst n g).length
theorem BS.least {P : Mt} {n : Nat} {f : Nat → Bool} (h : BS P n n f) : Least P n f := ⟨h.dom, h.pos, fun g hg hp => by
  obtain ⟨x, hx⟩ := List.exists_mem_of_length_pos hp
  obtain ⟨h1, h2⟩ := lst_mem.1 hx
  exact h.few x h1 g hg h2⟩
theorem WT.pos {P : Mt} {n i : Nat} {f : Nat → Bool} (h : WT P n i f) (hi : i < n) : 0 < (lst n f).length := List.length_pos_of_mem (lst_mem.2 ⟨hi, h.one⟩)
theorem WT.few {P : Mt} {n i : Nat} {f g : Nat → Bool} (h : WT P n i f) (hg : Dom P n g) (h1 : g i = true) : (lst n f).length ≤ (lst n g).length := lst_sub (fun a ha hf => h.min g hg h1 a ha hf)
theorem BS.first {P : Mt} {n : Nat} {f : Nat → Bool} (h : WT P n 0 f) (hn : 0 < n) : BS P n 1 f := ⟨h.dom, h.pos hn, fun k hk g hg h1 => by
  obtain rfl : k = 0 := by omega
  exact h.few hg h1⟩
theorem BS.better {P : Mt} {n i : Nat} {f f' : Nat → Bool} (h : BS P n i f) (h' : WT P n i f') (hi : i < n) (hl : (lst n f').length < (lst n f).length) : BS P n (i + 1) f' := ⟨h'.dom, h'.pos hi, fun k hk g hg h1 => by
  by_cases e : k = i
  · subst e; exact h'.few hg h1
  · have := h.few k (by omega) g hg h1; omega⟩
theorem BS.keep {P : Mt} {n i : Nat} {f f' : Nat → Bool} (h : BS P n i f) (h' : WT P n i f') (hl : ¬ (lst n f').length < (lst n f).length) : BS P n (i + 1) f := ⟨h.dom, h.pos, fun k hk g hg h1 => by
  by_cases e : k = i
  · subst e; have := h'.few hg h1; omega
  · exact h.few k (by omega) g hg h1⟩
theorem LS.some_ {W : World} {v : Value} {l : List Int} (h : LS W v l) (hl : 0 < l.length) : ∃ g cap, v = .slice (some ⟨g, 0, none⟩) l.length cap ∧ l.length ≤ cap ∧ IL W (some ⟨g, 0, none⟩) l := by
  obtain ⟨a, c, rfl, h1, h2, h3, h4, h5⟩ := h.ex
  cases a with
  | none => have := (h3 rfl).1; omega
  | some ad =>
    obtain ⟨g, rfl⟩ := h4 ad rfl
    exact ⟨g, c, rfl, h1, h5⟩
set_option maxHeartbeats 4000000 in
theorem smith20 {w : World} {a : Option Addr} {n c : Nat} {P : Mt} (h1 : 1 ≤ n) (hn : n ≤ 12) (hs : SQ w a n P) :
    Calls Tryz.prog 17 #[.slice a n c] w fun e w' => (∃ v f, e = .returned v ∧ Least P n f ∧ LS w' v (zi (lst n f))) ∧ Below w.heap.size w w' := by
  have SW : Hid (∀ V i, Below w.heap.size w V → i < n → Calls Tryz.prog 29 #[.slice a n c, .int .i64 ((i : Nat) : Int)] V fun e w' => (∃ g cap f, e = .returned (.slice (some ⟨g, 0, none⟩) (lst n f).length cap) ∧ WT P n i f ∧ LS w' (.slice (some ⟨g, 0, none⟩) (lst n f).length cap) (zi (lst n f))) ∧ Below V.heap.size V w') := fun V i hV hi => (setWith31 hn (hs.of_below hV) hi).mono (by
    rintro e w' ⟨⟨v, f, rfl, hw, hl⟩, hB⟩
    obtain ⟨g, cap, rfl, _, _⟩ := hl.some_ (by rw [zi_len]; exact hw.pos hi)
    rw [zi_len] at hl ⊢
    exact ⟨⟨g, cap, f, rfl, hw, hl⟩, hB⟩)
  have heq : ∀ (b m c : Nat) (W : World), (binOp .eql 26 (.slice (some ⟨b, 0, none⟩) m c) (.slice none 0 0)).run Tryz.prog W = .ok (.bool false) W := fun b m c W => Lib.run_eql_slice_nil W 26 3 _ _ _ _ _ Tryz.underlying26
  have heq2 : ∀ (W : World), (binOp .eql 26 (.slice none 0 0) (.slice none 0 0)).run Tryz.prog W = .ok (.bool true) W := fun W => Lib.run_eql_slice_nil W 26 3 _ _ _ _ _ Tryz.underlying26
  clear hs
  go_enter Tryz.func17, Tryz.ntmps17
  go_wp2_with fail
  go_loopg [3, 4, 5, 8] n (fun gk v3 v4 v5 v8 wr => ∃ i : Nat, i + gk = n ∧ v8 = .int .i64 (i : Int) ∧ ((i = 0 ∧ v3 = .slice none 0 0) ∨ (0 < i ∧ ∃ f g cap, v3 = .slice (some ⟨g, 0, none⟩) (lst n f).length cap ∧ BS P n i f ∧ LS wr v3 (zi (lst n f)))) ∧ Below w.heap.size w wr)
  case atStart => exact ⟨0, by omega, rfl, Or.inl ⟨rfl, rfl⟩, Below.refl _ _⟩
  case round =>
    obtain ⟨i, hig, rfl, hv, hB⟩ := hrel
    have B : Hid (Below w.heap.size w wr) := hB
    clear hB
    by_cases hi : i < n
    · have il : (i : Int) < (n : Int) := by omega
      have S1 : Hid (Calls Tryz.prog 29 #[.slice a n c, .int .i64 (i : Int)] wr fun e w' => (∃ g cap f, e = .returned (.slice (some ⟨g, 0, none⟩) (lst n f).length cap) ∧ WT P n i f ∧ LS w' (.slice (some ⟨g, 0, none⟩) (lst n f).length cap) (zi (lst n f))) ∧ Below wr.heap.size wr w') := SW.out wr i B.out hi
      rcases hv with ⟨rfl, rfl⟩ | ⟨hi0, f, g, cap, rfl, hbs, hls⟩
      · go_wp2_with (first
          | (go_at_call 29; refine S1.out.mono ?_; rintro e w1 ⟨⟨g1, c1, f1, rfl, hw, hl⟩, hb⟩; have B1 : Hid (Below w.heap.size w w1) := B.out.trans (hb.mono B.out.size); have W1 : Hid (WT P n 0 f1) := hw; have L1 : Hid (LS w1 (.slice (some ⟨g1, 0, none⟩) (lst n f1).length c1) (zi (lst n f1))) := hl; clear hb hw hl S1)
          | fail)
        go_roundg (gk - 1)
        case measure => omega
        case rel => exact ⟨1, by omega, by go_num, Or.inr ⟨by omega, f1, g1, c1, rfl, BS.first W1.out hi, L1.out⟩, B1.out⟩
      · have HB : Hid (BS P n i f) := hbs
        have HL : Hid (LS wr (.slice (some ⟨g, 0, none⟩) (lst n f).length cap) (zi (lst n f))) := hls
        clear hbs hls
        obtain ⟨m, hm⟩ : ∃ m, m = (lst n f).length := ⟨_, rfl⟩
        have HM : Hid (m = (lst n f).length) := hm
        rw [← hm]
        clear hm
        go_upto_region 6 with (first
          | (go_at_call 29; refine S1.out.mono ?_; rintro e w1 ⟨⟨g1, c1, f1, rfl, hw, hl⟩, hb⟩; have B1 : Hid (Below w.heap.size w w1) := B.out.trans (hb.mono B.out.size); have W1 : Hid (WT P n i f1) := hw; have L1 : Hid (LS w1 (.slice (some ⟨g1, 0, none⟩) (lst n f1).length c1) (zi (lst n f1))) := hl; have BB : Hid (Below wr.heap.size wr w1) := hb; clear hb hw hl S1)
          | fail)
        have L0 : Hid (LS w1 (.slice (some ⟨g, 0, none⟩) m cap) (zi (lst n f))) := by
          have z := HL.out.of_below BB.out
          rw [← HM.out] at z
          exact z
        obtain ⟨m1, hm1⟩ : ∃ m, m = (lst n f1).length := ⟨_, rfl⟩
        have HM1 : Hid (m1 = (lst n f1).length) := hm1
        have L2 : Hid (LS w1 (.slice (some ⟨g1, 0, none⟩) m1 c1) (zi (lst n f1))) := by rw [hm1]; exact L1.out
        rw [← hm1]
        clear hm1 L1
        by_cases hlt : m1 < m
        · have ml : (m1 : Int) < (m : Int) := by omega
          have BN : Hid (BS P n (i + 1) f1) := HB.out.better W1.out hi (by rw [← HM1.out, ← HM.out]; exact hlt)
          go_wp2_with fail
          go_roundg (gk - 1)
          case measure => omega
          case rel => exact ⟨i + 1, by omega, by go_num, Or.inr ⟨by omega, f1, g1, c1, by rw [HM1.out], BN.out, L2.out⟩, B1.out⟩
        · have ml : ¬ (m1 : Int) < (m : Int) := by omega
          have BN : Hid (BS P n (i + 1) f) := HB.out.keep W1.out (by rw [← HM1.out, ← HM.out]; exact hlt)
          go_wp2_with fail
          go_roundg (gk - 1)
          case measure => omega
          case rel => exact ⟨i + 1, by omega, by go_num, Or.inr ⟨by omega, f, g, cap, by rw [HM.out], BN.out, L0.out⟩, B1.out⟩
    · have il : ¬ (i : Int) < (n : Int) := by omega
      have e : i = n := by omega
      rcases hv with ⟨rfl, rfl⟩ | ⟨hi0, f, g, cap, rfl, hbs, hls⟩
      · omega
      · have HB : Hid (Least P n f) := by rw [e] at hbs; exact hbs.least
        have HL : Hid (LS wr (.slice (some ⟨g, 0, none⟩) (lst n f).length cap) (zi (lst n f))) := hls
        clear hbs hls e
        go_wp2_with fail
        exact bodyPost_ret (v := .slice (some ⟨g, 0, none⟩) (lst n f).length cap) (by simp [results, Tryz.results17, go_sem]) rfl ⟨⟨_, rfl, f, HB.out, HL.out⟩, B.out⟩
set_option maxHeartbeats 1000000 in
theorem withSquare19_bad {w : World} {a : Option Addr} {n c : Nat} {k : Int} {v : Value} (hk : k ≠ 0) (C : Calls Tryz.prog 27 #[.slice a n c] w fun e w' => e = .returned (.int .i64 k) ∧ Below w.heap.size w w') :
    Calls Tryz.prog 16 #[.slice a n c, v] w fun e w' => e = .returned (.tuple #[.slice none 0 0, .int .i64 k]) ∧ Below w.heap.size w w' := by
  have H : Hid (Calls Tryz.prog 27 #[.slice a n c] w fun e w' => e = .returned (.int .i64 k) ∧ Below w.heap.size w w') := C
  have k0 : (k != 0) = true := by simpa using hk
  clear C hk
  go_enter Tryz.func16, Tryz.ntmps16
  go_wp2_with (go_at_call 27; refine (H.out).mono ?_; rintro e V1 ⟨rfl, hB⟩; have B1 : Hid (Below w.heap.size w V1) := hB; clear hB H)
  exact bodyPost_ret (v := .tuple #[.slice none 0 0, .int .i64 k]) (by simp [results, Tryz.results16, go_sem]) rfl ⟨rfl, B1.out⟩
set_option maxHeartbeats 1000000 in
theorem withSquare19_ok {w : World} {a : Option Addr} {n c : Nat} {R : World → Value → World → Prop} (C : Calls Tryz.prog 27 #[.slice a n c] w fun e w' => e = .returned (.int .i64 0) ∧ Below w.heap.size w w')
    (D : ∀ W, Below w.heap.size w W → Calls Tryz.prog 17 #[.slice a n c] W fun e w' => (∃ v, e = .returned v ∧ R W v w') ∧ Below W.heap.size W w') :
    Calls Tryz.prog 16 #[.slice a n c, .func (.func 17) #[] #[]] w fun e w' => (∃ v W, e = .returned (.tuple #[v, .int .i64 0]) ∧ Below w.heap.size w W ∧ R W v w') ∧ Below w.heap.size w w' := by
  have H : Hid (Calls Tryz.prog 27 #[.slice a n c] w fun e w' => e = .returned (.int .i64 0) ∧ Below w.heap.size w w') := C
  have HD : Hid (∀ W, Below w.heap.size w W → Calls Tryz.prog 17 #[.slice a n c] W fun e w' => (∃ v, e = .returned v ∧ R W v w') ∧ Below W.heap.size W w') := D
  clear C D
  go_enter Tryz.func16, Tryz.ntmps16
  go_wp2_with (first
    | (go_at_call 27; refine (H.out).mono ?_; rintro e V1 ⟨rfl, hB⟩; have B1 : Hid (Below w.heap.size w V1) := hB; clear hB H)
    | (go_at_call 17; refine (HD.out _ B1.out).mono ?_; rintro e V2 ⟨⟨v, rfl, hR⟩, hB⟩; have B2 : Hid (Below w.heap.size w V2) := B1.out.trans (hB.mono B1.out.size); have RR : Hid (R V1 v V2) := hR; clear hB hR HD)
    | fail)
  exact bodyPost_ret (v := .tuple #[v, .int .i64 0]) (by simp [results, Tryz.results16, go_sem]) rfl ⟨⟨v, V1, rfl, B1.out, RR.out⟩, B2.out⟩
/-- Smith of anything. -/
theorem smith9_bad {w : World} {a : Option Addr} {L : List (List Int)} {c : Nat} (hs : LL w a L) (hk : wpC L ≠ 0) :
    Calls Tryz.prog 7 #[.slice a L.length c] w fun e w' => e = .returned (.tuple #[.slice none 0 0, .int .i64 (wpC L)]) ∧ Below w.heap.size w w' := by
  have C := wrongPairs29 (c := c) hs
  have H : Hid (Calls Tryz.prog 16 #[.slice a L.length c, .func (.func 17) #[] #[]] w fun e w' => e = .returned (.tuple #[.slice none 0 0, .int .i64 (wpC L)]) ∧ Below w.heap.size w w') := withSquare19_bad hk C
  clear C hk
  generalize wpC L = k at *
  go_enter Tryz.func7, Tryz.ntmps7
  go_wp2_with (go_at_call 16; refine (H.out).mono ?_; rintro e V1 ⟨rfl, hB⟩; have B1 : Hid (Below w.heap.size w V1) := hB; clear hB H)
  exact bodyPost_ret (v := .tuple #[.slice none 0 0, .int .i64 k]) (by simp [results, Tryz.results7, go_sem]) rfl ⟨rfl, B1.out⟩
theorem smith9_ok {w : World} {a : Option Addr} {L : List (List Int)} {c : Nat} (hs : LL w a L) (hk : wpC L = 0) :
    Calls Tryz.prog 7 #[.slice a L.length c] w fun e w' => (∃ v f, e = .returned (.tuple #[v, .int .i64 0]) ∧ Least (en L) L.length f ∧ LS w' v (zi (lst L.length f))) ∧ Below w.heap.size w w' := by
  have C := wrongPairs29 (c := c) hs
  have f := fine_of hk
  rw [hk] at C
  have q := withSquare19_ok (R := fun W v w' => ∃ f, Least (en L) L.length f ∧ LS w' v (zi (lst L.length f))) C (fun W hW => (smith20 f.pos f.most ((hs.of_below hW).sq f.rows)).mono (by
    rintro e w' ⟨⟨v, g, rfl, h1, h2⟩, hB⟩
    exact ⟨⟨v, rfl, g, h1, h2⟩, hB⟩))
  have H : Hid (Calls Tryz.prog 16 #[.slice a L.length c, .func (.func 17) #[] #[]] w fun e w' => (∃ v f, e = .returned (.tuple #[v, .int .i64 0]) ∧ Least (en L) L.length f ∧ LS w' v (zi (lst L.length f))) ∧ Below w.heap.size w w') := q.mono (by
    rintro e w' ⟨⟨v, W, rfl, _, g, h1, h2⟩, hB⟩
    exact ⟨⟨v, g, rfl, h1, h2⟩, hB⟩)
  clear q C hk f
  go_enter Tryz.func7, Tryz.ntmps7
  go_wp2_with (go_at_call 16; refine (H.out).mono ?_; rintro e V1 ⟨⟨v, f, rfl, h1, h2⟩, hB⟩; have B1 : Hid (Below w.heap.size w V1) := hB; have S1 : Hid (Least (en L) L.length f) := h1; have M1 : Hid (LS V1 v (zi (lst L.length f))) := h2; clear hB h1 h2 H)
  exact bodyPost_ret (v := .tuple #[v, .int .i64 0]) (by simp [results, Tryz.results7, go_sem]) rfl ⟨⟨v, f, rfl, S1.out, M1.out⟩, B1.out⟩
end Go.Proofs.YtkcnpcjogfhkbaaGreatDoor
namespace Go.Proofs.YtkcnpcjogfhkbaaGreatDoor
open Go.RowKit Go.Deep Go.PlainAid

/-- What is wrong with a contest. -/
noncomputable def wc (n : Nat) (r s : Int) : Int := if (1 ≤ n ∧ n ≤ 12) ∧ (1 ≤ r ∧ r ≤ 4) ∧ (1 ≤ s ∧ s ≤ n) then 0 else 2
theorem noRule33 (r : Int) (w : World) : Calls Tryz.prog 30 #[.int .i64 r] w fun e w' => e = .returned (.bool (decide (¬ (1 ≤ r ∧ r ≤ 4)))) ∧ w' = w := by
  by_cases h1 : r < 1
  · have e : Hid (decide (¬ (1 ≤ r ∧ r ≤ 4)) = true) := decide_eq_true (by omega)
    generalize decide (¬ (1 ≤ r ∧ r ≤ 4)) = q at *
    go_enter Tryz.func30, Tryz.ntmps30
    go_wp2_with fail
    go_ret
    exact ⟨by rw [e.out]; rfl, rfl⟩
  · by_cases h2 : 4 < r
    · have e : Hid (decide (¬ (1 ≤ r ∧ r ≤ 4)) = true) := decide_eq_true (by omega)
      generalize decide (¬ (1 ≤ r ∧ r ≤ 4)) = q at *
      go_enter Tryz.func30, Tryz.ntmps30
      go_wp2_with fail
      go_ret
      exact ⟨by rw [e.out]; rfl, rfl⟩
    · have e : Hid (decide (¬ (1 ≤ r ∧ r ≤ 4)) = false) := decide_eq_false (by omega)
      generalize decide (¬ (1 ≤ r ∧ r ≤ 4)) = q at *
      go_enter Tryz.func30, Tryz.ntmps30
      go_wp2_with fail
      go_ret
      exact ⟨by rw [e.out]; rfl, rfl⟩
set_option maxHeartbeats 1000000 in
theorem wrong22 (nm : ByteArray) (a : Option Addr) (n c : Nat) (r s m : Int) (w : World) : Calls Tryz.prog 18 #[CV nm a n c r s m] w fun e w' => e = .returned (.int .i64 (wc n r s)) ∧ Below w.heap.size w w' := by
  have B : Hid (Below w.heap.size w (w.alloc (.cells #[.string nm, .slice a n c, .int .i64 r, .int .i64 s, .int .i64 m] 24))) := (Below.refl _ _).alloc (Nat.le_refl _) _
  have H33 : Hid (∀ W, Calls Tryz.prog 30 #[.int .i64 r] W fun e w' => e = .returned (.bool (decide (¬ (1 ≤ r ∧ r ≤ 4)))) ∧ w' = W) := noRule33 r
  unfold CV
  by_cases g0 : (n : Int) < 1
  · have e : Hid (wc n r s = 2) := by show _ = _; rw [wc, if_neg (by omega)]
    generalize wc n r s = V at *
    go_enter Tryz.func18, Tryz.ntmps18
    go_wp2_with (first | (go_at_call 30; refine (H33.out _).mono ?_; rintro e w1 ⟨rfl, h1⟩; obtain rfl := h1.symm) | fail)
    go_ret
    exact ⟨by rw [e.out]; rfl, B.out⟩
  by_cases g1 : (12 : Int) < (n : Int)
  · have e : Hid (wc n r s = 2) := by show _ = _; rw [wc, if_neg (by omega)]
    generalize wc n r s = V at *
    go_enter Tryz.func18, Tryz.ntmps18
    go_wp2_with (first | (go_at_call 30; refine (H33.out _).mono ?_; rintro e w1 ⟨rfl, h1⟩; obtain rfl := h1.symm) | fail)
    go_ret
    exact ⟨by rw [e.out]; rfl, B.out⟩
  by_cases g2 : ¬ (1 ≤ r ∧ r ≤ 4)
  · rw [decide_eq_true g2] at H33
    have e : Hid (wc n r s = 2) := by show _ = _; rw [wc, if_neg (by omega)]
    generalize wc n r s = V at *
    go_enter Tryz.func18, Tryz.ntmps18
    go_wp2_with (first | (go_at_call 30; refine (H33.out _).mono ?_; rintro e w1 ⟨rfl, h1⟩; obtain rfl := h1.symm) | fail)
    go_ret
    exact ⟨by rw [e.out]; rfl, B.out⟩
  rw [decide_eq_false g2] at H33
  by_cases g3 : s < 1
  · have e : Hid (wc n r s = 2) := by show _ = _; rw [wc, if_neg (by omega)]
    generalize wc n r s = V at *
    go_enter Tryz.func18, Tryz.ntmps18
    go_wp2_with (first | (go_at_call 30; refine (H33.out _).mono ?_; rintro e w1 ⟨rfl, h1⟩; obtain rfl := h1.symm) | fail)
    go_ret
    exact ⟨by rw [e.out]; rfl, B.out⟩
  by_cases g4 : (n : Int) < s
  · have e : Hid (wc n r s = 2) := by show _ = _; rw [wc, if_neg (by omega)]
    generalize wc n r s = V at *
    go_enter Tryz.func18, Tryz.ntmps18
    go_wp2_with (first | (go_at_call 30; refine (H33.out _).mono ?_; rintro e w1 ⟨rfl, h1⟩; obtain rfl := h1.symm) | fail)
    go_ret
    exact ⟨by rw [e.out]; rfl, B.out⟩
  have e : Hid (wc n r s = 0) := by show _ = _; rw [wc, if_pos (by omega)]
  generalize wc n r s = V at *
  go_enter Tryz.func18, Tryz.ntmps18
  go_wp2_with (first | (go_at_call 30; refine (H33.out _).mono ?_; rintro e w1 ⟨rfl, h1⟩; obtain rfl := h1.symm) | fail)
  go_ret
  exact ⟨by rw [e.out]; rfl, B.out⟩
theorem wc_two {n : Nat} {r s : Int} (h : wc n r s ≠ 0) : wc n r s = 2 := by
  unfold wc at h ⊢
  split at h
  · omega
  · rename_i q; rw [if_neg q]
theorem wc_fits {n : Nat} {r s : Int} (h : wc n r s = 0) : (1 ≤ n ∧ n ≤ 12) ∧ (1 ≤ r ∧ r ≤ 4) ∧ 1 ≤ s ∧ s ≤ n := by
  unfold wc at h
  split at h
  · assumption
  · omega
theorem above36 (x : Int) (w : World) : Calls Tryz.prog 39 #[.int .i64 x] w fun e w' => e = .returned (.bool (decide (0 < x))) ∧ w' = w := by
  go_enter Tryz.func39, Tryz.ntmps39
  go_wp2_with fail
  go_ret
  exact ⟨rfl, rfl⟩
set_option maxHeartbeats 1000000 in
theorem index42 {w : World} {a : Option Addr} {n c : Nat} {l : List Int} (hl : l.length = n) (h9 : n ≤ 4096) (hL : IL w a l) :
    Calls Tryz.prog 56 #[.slice a n c, .func (.func 39) #[] #[]] w fun e w' => (∃ z : Int, e = .returned (.int .i64 z) ∧ decide (0 ≤ z) = l.any (fun x => decide (0 < x))) ∧ Below w.heap.size w w' := by
  have HL : Hid (IL w a l) := hL
  have H : Hid (∀ x W, Calls Tryz.prog 39 #[.int .i64 x] W fun e w' => e = .returned (.bool (decide (0 < x))) ∧ w' = W) := above36
  clear hL
  go_enter Tryz.func56, Tryz.ntmps56
  go_wp2_with fail
  go_loopg [5, 8] n (fun gk v5 v8 wr => ∃ i : Nat, i + gk = n ∧ v8 = .int .i64 (i : Int) ∧ (∀ x ∈ l.take i, ¬ 0 < x) ∧ Below w.heap.size w wr)
  case atStart => exact ⟨0, by omega, rfl, by simp, Below.refl _ _⟩
  case round =>
    obtain ⟨i, hig, rfl, hx, hB⟩ := hrel
    have HX : Hid (∀ x ∈ l.take i, ¬ 0 < x) := hx
    have B : Hid (Below w.heap.size w wr) := hB
    clear hx hB
    by_cases hi : i < n
    · have il : (i : Int) < (n : Int) := by omega
      have hi2 : i < l.length := by omega
      obtain ⟨b, o, rfl, q⟩ := HL.out.of_below B.out i hi2
      have HM : Hid (l[i] ∈ l) := List.getElem_mem hi2
      have HN : Hid (¬ 0 < l[i] → ∀ x ∈ l.take (i + 1), ¬ 0 < x) := fun h x hx => by
        rw [List.take_succ_eq_append_getElem hi2] at hx
        simp only [List.mem_append, List.mem_singleton] at hx
        rcases hx with hx | rfl
        · exact HX.out x hx
        · exact h
      by_cases he : 0 < l[i]
      · have HT : Hid (l.any (fun x => decide (0 < x)) = true) := List.any_eq_true.2 ⟨_, HM.out, by simpa using he⟩
        have e1 : decide (0 < l[i]) = true := decide_eq_true he
        have C : Hid (∀ W, Calls Tryz.prog 39 #[.int .i64 l[i]] W fun e w' => e = .returned (.bool true) ∧ w' = W) := fun W => by have := H.out l[i] W; rw [e1] at this; exact this
        clear HN HM HX he e1 H
        generalize l[i] = y at *
        go_wp2_with (go_at_call 39; refine (C.out _).mono ?_; rintro e w1 ⟨rfl, h1⟩; obtain rfl := h1.symm)
        go_ret
        exact ⟨⟨_, rfl, by rw [HT.out]; exact decide_eq_true (by omega)⟩, B.out⟩
      · have HN2 : Hid (∀ x ∈ l.take (i + 1), ¬ 0 < x) := HN.out he
        have e1 : decide (0 < l[i]) = false := decide_eq_false he
        have C : Hid (∀ W, Calls Tryz.prog 39 #[.int .i64 l[i]] W fun e w' => e = .returned (.bool false) ∧ w' = W) := fun W => by have := H.out l[i] W; rw [e1] at this; exact this
        clear HN HM HX he e1 
        generalize l[i] = y at *
        go_wp2_with (go_at_call 39; refine (C.out _).mono ?_; rintro e w1 ⟨rfl, h1⟩; obtain rfl := h1.symm)
        go_roundg (gk - 1)
        case measure => omega
        case rel => exact ⟨i + 1, by omega, by go_num, HN2.out, B.out⟩
    · have il : ¬ (i : Int) < (n : Int) := by omega
      have HT : Hid (l.any (fun x => decide (0 < x)) = false) := by
        show _ = _
        rw [List.any_eq_false]
        intro x hx
        have := HX.out x (by rw [List.take_of_length_le (by omega)]; exact hx)
        simpa using this
      go_wp2_with fail
      go_ret
      exact ⟨⟨_, rfl, by rw [HT.out]; rfl⟩, B.out⟩
theorem contains35 {w : World} {a : Option Addr} {n c : Nat} {l : List Int} (hl : l.length = n) (h9 : n ≤ 4096) (hL : IL w a l) :
    Calls Tryz.prog 38 #[.slice a n c, .func (.func 39) #[] #[]] w fun e w' => e = .returned (.bool (l.any (fun x => decide (0 < x)))) ∧ Below w.heap.size w w' := by
  have H : Hid (Calls Tryz.prog 56 #[.slice a n c, .func (.func 39) #[] #[]] w fun e w' => (∃ z : Int, e = .returned (.int .i64 z) ∧ decide (0 ≤ z) = l.any (fun x => decide (0 < x))) ∧ Below w.heap.size w w') := index42 hl h9 hL
  clear hL
  generalize l.any (fun x => decide (0 < x)) = A at *
  go_enter Tryz.func38, Tryz.ntmps38
  go_wp2_with (go_at_call 56; refine H.out.mono ?_; rintro e w1 ⟨⟨z, rfl, hz⟩, hB⟩; have B1 : Hid (Below w.heap.size w w1) := hB; have HZ : Hid (decide (0 ≤ z) = A) := hz; clear hB hz H)
  go_ret
  exact ⟨by rw [← HZ.out]; rfl, B1.out⟩

/-- Is a rank one, and ahead of another one. -/
def ah (x y : Int) : Bool := decide (x ≠ 0 ∧ (y = 0 ∨ x < y))
set_option maxHeartbeats 1000000 in
theorem ahead27 (x y : Int) (w : World) : Calls Tryz.prog 26 #[.int .i64 x, .int .i64 y] w fun e w' => e = .returned (.bool (ah x y)) ∧ w' = w := by
  by_cases h0 : x = 0
  · have e : Hid (ah x y = false) := decide_eq_false (by simp [h0])
    have e1 : (x != 0) = false := by simp [h0]
    clear h0
    generalize ah x y = z at *
    go_enter Tryz.func26, Tryz.ntmps26
    go_wp2_with fail
    go_ret
    exact ⟨by rw [e.out]; rfl, rfl⟩
  · have e1 : (x != 0) = true := by simpa using h0
    by_cases hy : y = 0
    · have e : Hid (ah x y = true) := decide_eq_true ⟨h0, Or.inl hy⟩
      have e2 : (y == 0) = true := by simpa using hy
      clear h0 hy
      generalize ah x y = z at *
      go_enter Tryz.func26, Tryz.ntmps26
      go_wp2_with fail
      go_ret
      exact ⟨by rw [e.out]; rfl, rfl⟩
    · have e2 : (y == 0) = false := by simpa using hy
      by_cases hl : x < y
      · have e : Hid (ah x y = true) := decide_eq_true ⟨h0, Or.inr hl⟩
        clear h0 hy
        generalize ah x y = z at *
        go_enter Tryz.func26, Tryz.ntmps26
        go_wp2_with fail
        go_ret
        exact ⟨by rw [e.out]; rfl, rfl⟩
      · have e : Hid (ah x y = false) := decide_eq_false (by simp [hy, hl])
        clear h0 hy
        generalize ah x y = z at *
        go_enter Tryz.func26, Tryz.ntmps26
        go_wp2_with fail
        go_ret
        exact ⟨by rw [e.out]; rfl, rfl⟩
/-- What is wrong with ballots. -/
def wb (n : Nat) (L : List (List Int)) : Int := if 4096 < L.length then 3 else if L.all (fun b => decide (b.length = n)) then 0 else 2
set_option maxHeartbeats 2000000 in
theorem wrongBallots23 {w : World} {nm : ByteArray} {ca a : Option Addr} {n cc c : Nat} {r s m : Int} {L : List (List Int)} (hs : LL w a L) :
    Calls Tryz.prog 19 #[CV nm ca n cc r s m, .slice a L.length c] w fun e w' => e = .returned (.int .i64 (wb n L)) ∧ Below w.heap.size w w' := by
  unfold CV
  have B : Hid (Below w.heap.size w (w.alloc (.cells #[.string nm, .slice ca n cc, .int .i64 r, .int .i64 s, .int .i64 m] 24))) := (Below.refl _ _).alloc (Nat.le_refl _) _
  have I0 : Hid (IHolds (w.alloc (.cells #[.string nm, .slice ca n cc, .int .i64 r, .int .i64 s, .int .i64 m] 24)) w.heap.size 24 [.string nm, .slice ca n cc, .int .i64 r, .int .i64 s, .int .i64 m]) := IHolds.new w 24 _
  have HS : Hid (LL w a L) := hs
  clear hs
  by_cases h1 : 4096 < L.length
  · have e : Hid (wb n L = 3) := by show _ = _; unfold wb; rw [if_pos h1]
    have l1 : (4096 : Int) < (L.length : Int) := by omega
    generalize wb n L = V at *
    go_enter Tryz.func19, Tryz.ntmps19
    go_wp2_with fail
    go_ret
    exact ⟨by rw [e.out]; rfl, B.out⟩
  · have l1 : ¬ (4096 : Int) < (L.length : Int) := by omega
    have HV : Hid (∀ t, L.all (fun b => decide (b.length = n)) = t → wb n L = if t then 0 else 2) := fun t ht => by unfold wb; rw [if_neg h1, ht]
    generalize wb n L = V at *
    obtain ⟨N, hN⟩ : ∃ N, N = L.length := ⟨_, rfl⟩
    have HN : Hid (N = L.length) := hN
    rw [← hN] at l1 h1 ⊢
    clear hN
    go_enter Tryz.func19, Tryz.ntmps19
    go_wp2_with fail
    generalize w.alloc (.cells #[.string nm, .slice ca n cc, .int .i64 r, .int .i64 s, .int .i64 m] 24) = U at *
    go_loopg [6, 12] N (fun gk v6 v12 wr => ∃ i : Nat, i + gk = N ∧ v12 = .int .i64 (i : Int) ∧ (L.take i).all (fun b => decide (b.length = n)) = true ∧ wr = U)
    case atStart => exact ⟨0, by omega, rfl, by simp, rfl⟩
    case round =>
      obtain ⟨i, hig, rfl, hx, rfl⟩ := hrel
      have HX : Hid ((L.take i).all (fun b => decide (b.length = n)) = true) := hx
      clear hx
      by_cases hi : i < N
      · have il : (i : Int) < (N : Int) := by omega
        have hi2 : i < L.length := by rw [← HN.out]; exact hi
        obtain ⟨b, o, a', c', rfl, q1, _⟩ := HS.out.of_below B.out i hi2
        have q2 : wr.cell? ⟨w.heap.size, 1, none⟩ = some (.slice ca n cc) := I0.out.cell 1 (by simp)
        have AT : Hid ((L.take (i + 1)).all (fun b => decide (b.length = n)) = ((L.take i).all (fun b => decide (b.length = n)) && decide (L[i].length = n))) := all_take hi2
        have AN : Hid (decide (L[i].length = n) = false → L.all (fun b => decide (b.length = n)) = false) := fun h => all_no hi2 h
        generalize L[i].length = k at *
        by_cases hk : k = n
        · have e1 : ((k : Int) != (n : Int)) = false := by simp [hk]
          have H1 : Hid ((L.take (i + 1)).all (fun b => decide (b.length = n)) = true) := by show _ = _; rw [AT.out, HX.out, decide_eq_true hk]; rfl
          clear hk AT AN HX
          go_wp2_with fail
          go_roundg (gk - 1)
          case measure => omega
          case rel => exact ⟨i + 1, by omega, by go_num, H1.out, rfl⟩
        · have e1 : ((k : Int) != (n : Int)) = true := by simp; omega
          have e : Hid (V = 2) := HV.out false (AN.out (decide_eq_false hk))
          clear hk AT AN HX HV
          go_wp2_with fail
          go_ret
          exact ⟨by rw [e.out]; rfl, B.out⟩
      · have il : ¬ (i : Int) < (N : Int) := by omega
        have e : Hid (V = 0) := HV.out true (by have z := HX.out; rw [List.take_of_length_le (by rw [← HN.out]; omega)] at z; exact z)
        go_wp2_with fail
        go_ret
        exact ⟨by rw [e.out]; rfl, B.out⟩
end Go.Proofs.YtkcnpcjogfhkbaaGreatDoor
