/- The law BoardBlocks, walked. -/
import Derived.Test.YtckgihloiecdmaaDoorPh
set_option linter.unusedSimpArgs false
set_option linter.unusedVariables false
set_option maxRecDepth 100000
namespace Go.Proofs.YtckgihloiecdmaaDoor
open Go.RowKit Go.Deep Go.PlainAid

/-- What a function answers of entries, lo and hi. -/
def AnsB (f : Nat) (w0 : World) (a : Option Addr) (c : Nat) (E : List ByteArray) (lo hi co : Int) (qs : List ByteArray) : Prop := ∀ V, Below w0.heap.size w0 V → Calls Tryd.prog f #[.slice a E.length c, .int .i64 lo, .int .i64 hi] V fun e V' => (∃ a' c', e = .returned (.tuple #[.slice a' qs.length c', .int .i64 co]) ∧ SL V' a' qs) ∧ Below V.heap.size V V'
/-- What a function answers of a size and blocks. -/
def AnsH (f : Nat) (w0 : World) (a : Option Addr) (c : Nat) (bs : List ByteArray) (z co : Int) (s : ByteArray) : Prop := ∀ V, Below w0.heap.size w0 V → Calls Tryd.prog f #[.int .i64 z, .slice a bs.length c] V fun e V' => e = .returned (.tuple #[.string s, .int .i64 co]) ∧ Below V.heap.size V V'
theorem ansB_nil {f : Nat} {args : Array Value} {w : World} {co : Int} (h : Calls Tryd.prog f args w fun e V => e = .returned (.tuple #[.slice none 0 0, .int .i64 co]) ∧ Below w.heap.size w V) :
    Calls Tryd.prog f args w fun e V => (∃ a' c', e = .returned (.tuple #[.slice a' ([] : List ByteArray).length c', .int .i64 co]) ∧ SL V a' []) ∧ Below w.heap.size w V :=
  h.mono fun e V ⟨he, hb⟩ => ⟨⟨none, 0, he, fun i hi => by cases hi⟩, hb⟩
theorem blocks_same {w : World} (TP : TagC tgF 41 w) {a : Option Addr} {c : Nat} (E : List ByteArray) (hc : E.length ≤ c) (hc2 : c ≤ 9223372036854775807) (hs : ∀ p ∈ E, p.size ≤ 140737488355328) (h : SL w a E) (lo hi : Int) :
    ∃ co qs, qs.length ≤ 1048576 ∧ AnsB 5 w a c E lo hi co qs ∧ AnsB 6 w a c E lo hi co qs := by
  by_cases hE' : 1048576 < E.length
  · exact ⟨4, [], by simp, fun V hV => ansB_nil (blocks5_no V lo hi (Or.inr hE')), fun V hV => ansB_nil (refBlocks_no V lo hi (Or.inr hE'))⟩
  have hE : E.length ≤ 1048576 := by omega
  by_cases hr : 0 ≤ lo ∧ lo ≤ hi ∧ hi ≤ (E.length : Int)
  · obtain ⟨h1, h2, h3⟩ := hr
    obtain ⟨x, rfl⟩ := Int.eq_ofNat_of_zero_le h1
    obtain ⟨y, rfl⟩ := Int.eq_ofNat_of_zero_le (Int.le_trans h1 h2)
    exact ⟨0, (cover x y).map (blk tgF E), by rw [List.length_map]; exact cover_len x y (by omega), fun V hV => blocks5_yes tgF_size (TP.of hV) E hE hc hc2 hs (h.of_below hV) x y (by omega) (by omega), fun V hV => refBlocks_yes tgF_size (tagR V) E hE hc hc2 hs (h.of_below hV) x y (by omega) (by omega)⟩
  · exact ⟨4, [], by simp, fun V hV => ansB_nil (blocks5_no V lo hi (Or.inl hr)), fun V hV => ansB_nil (refBlocks_no V lo hi (Or.inl hr))⟩
theorem heads_same {w : World} (TP : TagC tgF 41 w) {a : Option Addr} {c : Nat} (bs : List ByteArray) (hl : bs.length ≤ 9223372036854775807) (hac : a = none → c = 0) (h : SL w a bs) (z : Int) :
    ∃ co s, AnsH 8 w a c bs z co s ∧ AnsH 9 w a c bs z co s := by
  by_cases hr : z < 0 ∨ 1048576 < z
  · exact ⟨4, ⟨#[]⟩, fun V hV => head8_range V z hr, fun V hV => refHead_range V z hr⟩
  · obtain ⟨n, rfl⟩ := Int.eq_ofNat_of_zero_le (show 0 ≤ z by omega)
    have hn : n ≤ 1048576 := by omega
    by_cases hf : bs.length ≠ (cover 0 n).length ∨ all32 bs = false
    · exact ⟨2, ⟨#[]⟩, fun V hV => head8_form V n hn hl (h.of_below hV) hf, fun V hV => refHead_form V n hn hl (h.of_below hV) hf⟩
    · have g1 : bs.length = (cover 0 n).length := by
        by_cases q : bs.length = (cover 0 n).length
        · exact q
        · exact absurd (Or.inl q) hf
      have g2 : all32 bs = true := by
        cases q : all32 bs with
        | true => rfl
        | false => exact absurd (Or.inr q) hf
      have hl' : bs.length ≤ 1048576 := by rw [g1]; exact cover_len 0 n hn
      exact ⟨0, tgF lHead (fourT n :: bs), fun V hV => head8_good (TP.of hV) n hn hl' (h.of_below hV) g1 g2, fun V hV => refHead_good V n hn hl' (h.of_below hV) hac g1 g2⟩
set_option maxHeartbeats 2000000 in
theorem law3 {w : World} {a b : Option Addr} {c d : Nat} {E bs qs : List ByteArray} {lo hi z co co2 : Int} {s : ByteArray} (hq : qs.length ≤ 1048576) (A5 : AnsB 5 w a c E lo hi co qs) (A6 : AnsB 6 w a c E lo hi co qs) (A8 : AnsH 8 w b d bs z co2 s) (A9 : AnsH 9 w b d bs z co2 s) :
    Calls Tryd.prog 3 #[.slice a E.length c, .int .i64 lo, .int .i64 hi, .int .i64 z, .slice b bs.length d] w fun e w' => e = .returned (.bool true) ∧ Below w.heap.size w w' := by
  have C5 : Hid (∀ V, Below w.heap.size w V → Calls Tryd.prog 5 #[.slice a E.length c, .int .i64 lo, .int .i64 hi] V fun e V' => (∃ a' c', e = .returned (.tuple #[.slice a' qs.length c', .int .i64 co]) ∧ SL V' a' qs) ∧ Below V.heap.size V V') := A5
  have C6 : Hid (∀ V, Below w.heap.size w V → Calls Tryd.prog 6 #[.slice a E.length c, .int .i64 lo, .int .i64 hi] V fun e V' => (∃ a' c', e = .returned (.tuple #[.slice a' qs.length c', .int .i64 co]) ∧ SL V' a' qs) ∧ Below V.heap.size V V') := A6
  have C8 : Hid (∀ V, Below w.heap.size w V → Calls Tryd.prog 8 #[.int .i64 z, .slice b bs.length d] V fun e V' => e = .returned (.tuple #[.string s, .int .i64 co2]) ∧ Below V.heap.size V V') := A8
  have C9 : Hid (∀ V, Below w.heap.size w V → Calls Tryd.prog 9 #[.int .i64 z, .slice b bs.length d] V fun e V' => e = .returned (.tuple #[.string s, .int .i64 co2]) ∧ Below V.heap.size V V') := A9
  have C7 : Hid (∀ V a' c' b' d', SL V a' qs → SL V b' qs → Calls Tryd.prog 7 #[.slice a' qs.length c', .slice b' qs.length d'] V fun e V' => e = .returned (.bool true) ∧ Below V.heap.size V V') := fun V a' c' b' d' h1 h2 => by
    have h := same7 (c := c') (d := d') (by omega) h1 h2
    rw [decide_eq_true rfl] at h
    exact h
  clear A5 A6 A8 A9
  have hc0 : (co == co) = true := beq_self_eq_true _
  have hc1 : (co != co) = false := by rw [bne, hc0]; rfl
  have hc2 : (co2 == co2) = true := beq_self_eq_true _
  have hs2 : (s.toList == s.toList) = true := beq_self_eq_true _
  go_enter Tryd.func3, Tryd.ntmps3
  go_wp2_with (first
    | (go_at_call 5; refine (C5.out _ (Below.refl _ _)).mono ?_; rintro e w1 ⟨⟨a5, c5, rfl, hs5⟩, hB1⟩; have B1 : Hid (Below w.heap.size w w1) := hB1; have S5 : Hid (SL w1 a5 qs) := hs5; clear hs5 hB1 C5)
    | (go_at_call 6; refine (C6.out _ B1.out).mono ?_; rintro e w2 ⟨⟨a6, c6, rfl, hs6⟩, hB2⟩; have B2 : Hid (Below w.heap.size w w2) := B1.out.trans (hB2.mono B1.out.size); have S6 : Hid (SL w2 a6 qs) := hs6; replace S5 : Hid (SL w2 a5 qs) := S5.out.of_below hB2; clear hs6 hB2 C6)
    | (go_at_call 7; refine (C7.out _ _ _ _ _ S5.out S6.out).mono ?_; rintro e w3 ⟨rfl, hB3⟩; have B3 : Hid (Below w.heap.size w w3) := B2.out.trans (hB3.mono B2.out.size); clear hB3 C7)
    | (go_at_call 8; refine (C8.out _ B3.out).mono ?_; rintro e w4 ⟨rfl, hB4⟩; have B4 : Hid (Below w.heap.size w w4) := B3.out.trans (hB4.mono B3.out.size); clear hB4 C8)
    | (go_at_call 9; refine (C9.out _ B4.out).mono ?_; rintro e w5 ⟨rfl, hB5⟩; have B5 : Hid (Below w.heap.size w w5) := B4.out.trans (hB5.mono B4.out.size); clear hB5 C9))
  go_ret
  exact ⟨rfl, B5.out⟩
/-- The law, whatever comes in. -/
theorem blocks_walk {w : World} (hT : F.Tabs w) (hS : F.Starts w) {a b : Option Addr} {c d : Nat} (E bs : List ByteArray) (hc : E.length ≤ c) (hc2 : c ≤ 9223372036854775807) (hs : ∀ p ∈ E, p.size ≤ 140737488355328) (h : SL w a E) (hl : bs.length ≤ 9223372036854775807) (hac : b = none → d = 0) (hb : SL w b bs) (lo hi z : Int) :
    Calls Tryd.prog 3 #[.slice a E.length c, .int .i64 lo, .int .i64 hi, .int .i64 z, .slice b bs.length d] w fun e w' => e = .returned (.bool true) ∧ Below w.heap.size w w' := by
  obtain ⟨co, qs, hq, A5, A6⟩ := blocks_same (tagP hT hS) E hc hc2 hs h lo hi
  obtain ⟨co2, s, A8, A9⟩ := heads_same (tagP hT hS) bs hl hac hb z
  exact law3 hq A5 A6 A8 A9
end Go.Proofs.YtckgihloiecdmaaDoor
