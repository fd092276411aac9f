/- Smith, the program's. -/
import Derived.Test.YtcdmndcpjememaaQb
import Derived.Deep.Cut
import Derived.Lib.SliceRun
set_option linter.unusedSimpArgs false
set_option linter.unusedVariables false
set_option maxRecDepth 100000
namespace Go.Proofs.Ytcdmndcpjememaa
open Go.RowKit Go.Deep Go.PlainAid

/-- The least set so far. -/
structure BS (P : Mt) (n i : Nat) (f : Nat → Bool) : Prop where
  dom : Dom P n f
  pos : 0 < (lst n f).length
  few : ∀ k, k < i → ∀ g, Dom P n g → g k = true → (lst n f).length ≤ (lst n g).length
theorem BS.least {P : Mt} {n : Nat} {f : Nat → Bool} (h : BS P n n f) : Least P n f := ⟨h.dom, h.pos, fun g hg hp => by
  obtain ⟨x, hx⟩ := List.exists_mem_of_length_pos hp
  obtain ⟨h1, h2⟩ := lst_mem.1 hx
  exact h.few x h1 g hg h2⟩
theorem WT.pos {P : Mt} {n i : Nat} {f : Nat → Bool} (h : WT P n i f) (hi : i < n) : 0 < (lst n f).length := List.length_pos_of_mem (lst_mem.2 ⟨hi, h.one⟩)
theorem WT.few {P : Mt} {n i : Nat} {f g : Nat → Bool} (h : WT P n i f) (hg : Dom P n g) (h1 : g i = true) : (lst n f).length ≤ (lst n g).length := lst_sub (fun a ha hf => h.min g hg h1 a ha hf)
theorem BS.first {P : Mt} {n : Nat} {f : Nat → Bool} (h : WT P n 0 f) (hn : 0 < n) : BS P n 1 f := ⟨h.dom, h.pos hn, fun k hk g hg h1 => by
  obtain rfl : k = 0 := by omega
  exact h.few hg h1⟩
theorem BS.better {P : Mt} {n i : Nat} {f f' : Nat → Bool} (h : BS P n i f) (h' : WT P n i f') (hi : i < n) (hl : (lst n f').length < (lst n f).length) : BS P n (i + 1) f' := ⟨h'.dom, h'.pos hi, fun k hk g hg h1 => by
  by_cases e : k = i
  · subst e; exact h'.few hg h1
  · have := h.few k (by omega) g hg h1; omega⟩
theorem BS.keep {P : Mt} {n i : Nat} {f f' : Nat → Bool} (h : BS P n i f) (h' : WT P n i f') (hl : ¬ (lst n f').length < (lst n f).length) : BS P n (i + 1) f := ⟨h.dom, h.pos, fun k hk g hg h1 => by
  by_cases e : k = i
  · subst e; have := h'.few hg h1; omega
  · exact h.few k (by omega) g hg h1⟩
theorem LS.some_ {W : World} {v : Value} {l : List Int} (h : LS W v l) (hl : 0 < l.length) : ∃ g cap, v = .slice (some ⟨g, 0, none⟩) l.length cap ∧ l.length ≤ cap ∧ IL W (some ⟨g, 0, none⟩) l := by
  obtain ⟨a, c, rfl, h1, h2, h3, h4, h5⟩ := h.ex
  cases a with
  | none => have := (h3 rfl).1; omega
  | some ad =>
    obtain ⟨g, rfl⟩ := h4 ad rfl
    exact ⟨g, c, rfl, h1, h5⟩
set_option maxHeartbeats 4000000 in
theorem smith20 {w : World} {a : Option Addr} {n c : Nat} {P : Mt} (h1 : 1 ≤ n) (hn : n ≤ 12) (hs : SQ w a n P) :
    Calls Try.prog 20 #[.slice a n c] w fun e w' => (∃ v f, e = .returned v ∧ Least P n f ∧ LS w' v (zi (lst n f))) ∧ Below w.heap.size w w' := by
  have SW : Hid (∀ V i, Below w.heap.size w V → i < n → Calls Try.prog 31 #[.slice a n c, .int .i64 ((i : Nat) : Int)] V fun e w' => (∃ g cap f, e = .returned (.slice (some ⟨g, 0, none⟩) (lst n f).length cap) ∧ WT P n i f ∧ LS w' (.slice (some ⟨g, 0, none⟩) (lst n f).length cap) (zi (lst n f))) ∧ Below V.heap.size V w') := fun V i hV hi => (setWith31 hn (hs.of_below hV) hi).mono (by
    rintro e w' ⟨⟨v, f, rfl, hw, hl⟩, hB⟩
    obtain ⟨g, cap, rfl, _, _⟩ := hl.some_ (by rw [zi_len]; exact hw.pos hi)
    rw [zi_len] at hl ⊢
    exact ⟨⟨g, cap, f, rfl, hw, hl⟩, hB⟩)
  have heq : ∀ (b m c : Nat) (W : World), (binOp .eql 31 (.slice (some ⟨b, 0, none⟩) m c) (.slice none 0 0)).run Try.prog W = .ok (.bool false) W := fun b m c W => Lib.run_eql_slice_nil W 31 3 _ _ _ _ _ Try.underlying31
  have heq2 : ∀ (W : World), (binOp .eql 31 (.slice none 0 0) (.slice none 0 0)).run Try.prog W = .ok (.bool true) W := fun W => Lib.run_eql_slice_nil W 31 3 _ _ _ _ _ Try.underlying31
  clear hs
  go_enter Try.func20, Try.ntmps20
  go_wp2_with fail
  go_loopg [3, 4, 5, 8] n (fun gk v3 v4 v5 v8 wr => ∃ i : Nat, i + gk = n ∧ v8 = .int .i64 (i : Int) ∧ ((i = 0 ∧ v3 = .slice none 0 0) ∨ (0 < i ∧ ∃ f g cap, v3 = .slice (some ⟨g, 0, none⟩) (lst n f).length cap ∧ BS P n i f ∧ LS wr v3 (zi (lst n f)))) ∧ Below w.heap.size w wr)
  case atStart => exact ⟨0, by omega, rfl, Or.inl ⟨rfl, rfl⟩, Below.refl _ _⟩
  case round =>
    obtain ⟨i, hig, rfl, hv, hB⟩ := hrel
    have B : Hid (Below w.heap.size w wr) := hB
    clear hB
    by_cases hi : i < n
    · have il : (i : Int) < (n : Int) := by omega
      have S1 : Hid (Calls Try.prog 31 #[.slice a n c, .int .i64 (i : Int)] wr fun e w' => (∃ g cap f, e = .returned (.slice (some ⟨g, 0, none⟩) (lst n f).length cap) ∧ WT P n i f ∧ LS w' (.slice (some ⟨g, 0, none⟩) (lst n f).length cap) (zi (lst n f))) ∧ Below wr.heap.size wr w') := SW.out wr i B.out hi
      rcases hv with ⟨rfl, rfl⟩ | ⟨hi0, f, g, cap, rfl, hbs, hls⟩
      · go_wp2_with (first
          | (go_at_call 31; refine S1.out.mono ?_; rintro e w1 ⟨⟨g1, c1, f1, rfl, hw, hl⟩, hb⟩; have B1 : Hid (Below w.heap.size w w1) := B.out.trans (hb.mono B.out.size); have W1 : Hid (WT P n 0 f1) := hw; have L1 : Hid (LS w1 (.slice (some ⟨g1, 0, none⟩) (lst n f1).length c1) (zi (lst n f1))) := hl; clear hb hw hl S1)
          | fail)
        go_roundg (gk - 1)
        case measure => omega
        case rel => exact ⟨1, by omega, by go_num, Or.inr ⟨by omega, f1, g1, c1, rfl, BS.first W1.out hi, L1.out⟩, B1.out⟩
      · have HB : Hid (BS P n i f) := hbs
        have HL : Hid (LS wr (.slice (some ⟨g, 0, none⟩) (lst n f).length cap) (zi (lst n f))) := hls
        clear hbs hls
        obtain ⟨m, hm⟩ : ∃ m, m = (lst n f).length := ⟨_, rfl⟩
        have HM : Hid (m = (lst n f).length) := hm
        rw [← hm]
        clear hm
        go_upto_region 6 with (first
          | (go_at_call 31; refine S1.out.mono ?_; rintro e w1 ⟨⟨g1, c1, f1, rfl, hw, hl⟩, hb⟩; have B1 : Hid (Below w.heap.size w w1) := B.out.trans (hb.mono B.out.size); have W1 : Hid (WT P n i f1) := hw; have L1 : Hid (LS w1 (.slice (some ⟨g1, 0, none⟩) (lst n f1).length c1) (zi (lst n f1))) := hl; have BB : Hid (Below wr.heap.size wr w1) := hb; clear hb hw hl S1)
          | fail)
        have L0 : Hid (LS w1 (.slice (some ⟨g, 0, none⟩) m cap) (zi (lst n f))) := by
          have z := HL.out.of_below BB.out
          rw [← HM.out] at z
          exact z
        obtain ⟨m1, hm1⟩ : ∃ m, m = (lst n f1).length := ⟨_, rfl⟩
        have HM1 : Hid (m1 = (lst n f1).length) := hm1
        have L2 : Hid (LS w1 (.slice (some ⟨g1, 0, none⟩) m1 c1) (zi (lst n f1))) := by rw [hm1]; exact L1.out
        rw [← hm1]
        clear hm1 L1
        by_cases hlt : m1 < m
        · have ml : (m1 : Int) < (m : Int) := by omega
          have BN : Hid (BS P n (i + 1) f1) := HB.out.better W1.out hi (by rw [← HM1.out, ← HM.out]; exact hlt)
          go_wp2_with fail
          go_roundg (gk - 1)
          case measure => omega
          case rel => exact ⟨i + 1, by omega, by go_num, Or.inr ⟨by omega, f1, g1, c1, by rw [HM1.out], BN.out, L2.out⟩, B1.out⟩
        · have ml : ¬ (m1 : Int) < (m : Int) := by omega
          have BN : Hid (BS P n (i + 1) f) := HB.out.keep W1.out (by rw [← HM1.out, ← HM.out]; exact hlt)
          go_wp2_with fail
          go_roundg (gk - 1)
          case measure => omega
          case rel => exact ⟨i + 1, by omega, by go_num, Or.inr ⟨by omega, f, g, cap, by rw [HM.out], BN.out, L0.out⟩, B1.out⟩
    · have il : ¬ (i : Int) < (n : Int) := by omega
      have e : i = n := by omega
      rcases hv with ⟨rfl, rfl⟩ | ⟨hi0, f, g, cap, rfl, hbs, hls⟩
      · omega
      · have HB : Hid (Least P n f) := by rw [e] at hbs; exact hbs.least
        have HL : Hid (LS wr (.slice (some ⟨g, 0, none⟩) (lst n f).length cap) (zi (lst n f))) := hls
        clear hbs hls e
        go_wp2_with fail
        exact bodyPost_ret (v := .slice (some ⟨g, 0, none⟩) (lst n f).length cap) (by simp [results, Try.results20, go_sem]) rfl ⟨⟨_, rfl, f, HB.out, HL.out⟩, B.out⟩
set_option maxHeartbeats 1000000 in
theorem withSquare19_bad {w : World} {a : Option Addr} {n c : Nat} {k : Int} {v : Value} (hk : k ≠ 0) (C : Calls Try.prog 29 #[.slice a n c] w fun e w' => e = .returned (.int .i64 k) ∧ Below w.heap.size w w') :
    Calls Try.prog 19 #[.slice a n c, v] w fun e w' => e = .returned (.tuple #[.slice none 0 0, .int .i64 k]) ∧ Below w.heap.size w w' := by
  have H : Hid (Calls Try.prog 29 #[.slice a n c] w fun e w' => e = .returned (.int .i64 k) ∧ Below w.heap.size w w') := C
  have k0 : (k != 0) = true := by simpa using hk
  clear C hk
  go_enter Try.func19, Try.ntmps19
  go_wp2_with (go_at_call 29; refine (H.out).mono ?_; rintro e V1 ⟨rfl, hB⟩; have B1 : Hid (Below w.heap.size w V1) := hB; clear hB H)
  exact bodyPost_ret (v := .tuple #[.slice none 0 0, .int .i64 k]) (by simp [results, Try.results19, go_sem]) rfl ⟨rfl, B1.out⟩
set_option maxHeartbeats 1000000 in
theorem withSquare19_ok {w : World} {a : Option Addr} {n c : Nat} {R : World → Value → World → Prop} (C : Calls Try.prog 29 #[.slice a n c] w fun e w' => e = .returned (.int .i64 0) ∧ Below w.heap.size w w')
    (D : ∀ W, Below w.heap.size w W → Calls Try.prog 20 #[.slice a n c] W fun e w' => (∃ v, e = .returned v ∧ R W v w') ∧ Below W.heap.size W w') :
    Calls Try.prog 19 #[.slice a n c, .func (.func 20) #[] #[]] w fun e w' => (∃ v W, e = .returned (.tuple #[v, .int .i64 0]) ∧ Below w.heap.size w W ∧ R W v w') ∧ Below w.heap.size w w' := by
  have H : Hid (Calls Try.prog 29 #[.slice a n c] w fun e w' => e = .returned (.int .i64 0) ∧ Below w.heap.size w w') := C
  have HD : Hid (∀ W, Below w.heap.size w W → Calls Try.prog 20 #[.slice a n c] W fun e w' => (∃ v, e = .returned v ∧ R W v w') ∧ Below W.heap.size W w') := D
  clear C D
  go_enter Try.func19, Try.ntmps19
  go_wp2_with (first
    | (go_at_call 29; refine (H.out).mono ?_; rintro e V1 ⟨rfl, hB⟩; have B1 : Hid (Below w.heap.size w V1) := hB; clear hB H)
    | (go_at_call 20; refine (HD.out _ B1.out).mono ?_; rintro e V2 ⟨⟨v, rfl, hR⟩, hB⟩; have B2 : Hid (Below w.heap.size w V2) := B1.out.trans (hB.mono B1.out.size); have RR : Hid (R V1 v V2) := hR; clear hB hR HD)
    | fail)
  exact bodyPost_ret (v := .tuple #[v, .int .i64 0]) (by simp [results, Try.results19, go_sem]) rfl ⟨⟨v, V1, rfl, B1.out, RR.out⟩, B2.out⟩
/-- Smith of anything. -/
theorem smith9_bad {w : World} {a : Option Addr} {L : List (List Int)} {c : Nat} (hs : LL w a L) (hk : wpC L ≠ 0) :
    Calls Try.prog 9 #[.slice a L.length c] w fun e w' => e = .returned (.tuple #[.slice none 0 0, .int .i64 (wpC L)]) ∧ Below w.heap.size w w' := by
  have C := wrongPairs29 (c := c) hs
  have H : Hid (Calls Try.prog 19 #[.slice a L.length c, .func (.func 20) #[] #[]] w fun e w' => e = .returned (.tuple #[.slice none 0 0, .int .i64 (wpC L)]) ∧ Below w.heap.size w w') := withSquare19_bad hk C
  clear C hk
  generalize wpC L = k at *
  go_enter Try.func9, Try.ntmps9
  go_wp2_with (go_at_call 19; refine (H.out).mono ?_; rintro e V1 ⟨rfl, hB⟩; have B1 : Hid (Below w.heap.size w V1) := hB; clear hB H)
  exact bodyPost_ret (v := .tuple #[.slice none 0 0, .int .i64 k]) (by simp [results, Try.results9, go_sem]) rfl ⟨rfl, B1.out⟩
theorem smith9_ok {w : World} {a : Option Addr} {L : List (List Int)} {c : Nat} (hs : LL w a L) (hk : wpC L = 0) :
    Calls Try.prog 9 #[.slice a L.length c] w fun e w' => (∃ v f, e = .returned (.tuple #[v, .int .i64 0]) ∧ Least (en L) L.length f ∧ LS w' v (zi (lst L.length f))) ∧ Below w.heap.size w w' := by
  have C := wrongPairs29 (c := c) hs
  have f := fine_of hk
  rw [hk] at C
  have q := withSquare19_ok (R := fun W v w' => ∃ f, Least (en L) L.length f ∧ LS w' v (zi (lst L.length f))) C (fun W hW => (smith20 f.pos f.most ((hs.of_below hW).sq f.rows)).mono (by
    rintro e w' ⟨⟨v, g, rfl, h1, h2⟩, hB⟩
    exact ⟨⟨v, rfl, g, h1, h2⟩, hB⟩))
  have H : Hid (Calls Try.prog 19 #[.slice a L.length c, .func (.func 20) #[] #[]] w fun e w' => (∃ v f, e = .returned (.tuple #[v, .int .i64 0]) ∧ Least (en L) L.length f ∧ LS w' v (zi (lst L.length f))) ∧ Below w.heap.size w w') := q.mono (by
    rintro e w' ⟨⟨v, W, rfl, _, g, h1, h2⟩, hB⟩
    exact ⟨⟨v, g, rfl, h1, h2⟩, hB⟩)
  clear q C hk f
  go_enter Try.func9, Try.ntmps9
  go_wp2_with (go_at_call 19; refine (H.out).mono ?_; rintro e V1 ⟨⟨v, f, rfl, h1, h2⟩, hB⟩; have B1 : Hid (Below w.heap.size w V1) := hB; have S1 : Hid (Least (en L) L.length f) := h1; have M1 : Hid (LS V1 v (zi (lst L.length f))) := h2; clear hB h1 h2 H)
  exact bodyPost_ret (v := .tuple #[v, .int .i64 0]) (by simp [results, Try.results9, go_sem]) rfl ⟨⟨v, f, rfl, S1.out, M1.out⟩, B1.out⟩
end Go.Proofs.Ytcdmndcpjememaa
