/- Head, on the document's side. -/
import Derived.Test.YtckgihloiecdmaaDoorHdm
set_option linter.unusedSimpArgs false
set_option linter.unusedVariables false
set_option maxRecDepth 100000
namespace Go.Proofs.YtckgihloiecdmaaDoor
open Go.RowKit Go.Deep Go.PlainAid

def all32 (l : List ByteArray) : Bool := l.all (fun p => decide (p.size = 32))
set_option maxHeartbeats 1000000 in
theorem refHead_range (w : World) (z : Int) {a : Option Addr} {n c : Nat} (h : z < 0 ∨ 1048576 < z) : Calls Tryd.prog 9 #[.int .i64 z, .slice a n c] w fun e w' => e = .returned (.tuple #[.string ⟨#[]⟩, .int .i64 4]) ∧ Below w.heap.size w w' := by
  by_cases h0 : z < 0
  · clear h
    go_enter Tryd.func9, Tryd.ntmps9
    go_wp2_with fail
    exact bodyPost_ret (v := .tuple #[.string ⟨#[]⟩, .int .i64 4]) (by simp [results, Tryd.results9, go_sem]) rfl ⟨rfl, Below.refl _ _⟩
  · have h1 : (1048576 : Int) < z := by omega
    clear h
    go_enter Tryd.func9, Tryd.ntmps9
    go_wp2_with fail
    exact bodyPost_ret (v := .tuple #[.string ⟨#[]⟩, .int .i64 4]) (by simp [results, Tryd.results9, go_sem]) rfl ⟨rfl, Below.refl _ _⟩
set_option maxHeartbeats 2000000 in
theorem refHead_form (w : World) (z : Nat) (hz : z ≤ 1048576) {a : Option Addr} {c : Nat} {l : List ByteArray} (hl : l.length ≤ 1048576) (hs : SL w a l) (h : l.length ≠ (cover 0 z).length ∨ all32 l = false) : Calls Tryd.prog 9 #[.int .i64 (z : Int), .slice a l.length c] w fun e w' => e = .returned (.tuple #[.string ⟨#[]⟩, .int .i64 2]) ∧ Below w.heap.size w w' := by
  have HP : Hid (Calls Tryd.prog 16 #[.int .i64 ((0 : Nat) : Int), .int .i64 (z : Int)] w fun e w' => (∃ a c, e = .returned (.slice a (cover 0 z).length c) ∧ SPL w' a (cover 0 z) ∧ (cover 0 z = [] → a = none ∧ c = 0)) ∧ Below w.heap.size w w') := parts16 1048576 0 z (by omega) (by omega) hz w
  have HWD : Hid (∀ V, Below w.heap.size w V → Calls Tryd.prog 20 #[.slice a l.length c] V fun e w' => e = .returned (.bool (all32 l)) ∧ Below V.heap.size V w') := fun V hV => wide20 hl (hs.of_below hV)
  have z0 : ¬ (z : Int) < 0 := by omega
  have z1 : ¬ (1048576 : Int) < (z : Int) := by omega
  generalize (cover 0 z) = L at *
  clear hs
  by_cases hne : l.length = L.length
  · have hb : ((L.length : Int) != (l.length : Int)) = false := by rw [hne]; simp [bne]
    have ha : all32 l = false := by rcases h with h | h; exact absurd hne h; exact h
    rw [ha] at HWD
    clear h hne ha
    go_enter Tryd.func9, Tryd.ntmps9
    go_wp2_with (first
      | (go_at_call 16; refine HP.out.mono ?_; rintro e w1 ⟨⟨a1, c1, rfl, hs1, hn1⟩, hB1⟩; clear hs1 hn1; have B1 : Hid (Below w.heap.size w w1) := hB1; clear hB1)
      | (go_at_call 20; refine (HWD.out _ B1.out).mono ?_; rintro e w2 ⟨rfl, hB2⟩; have B2 : Hid (Below w.heap.size w w2) := B1.out.trans (hB2.mono B1.out.size); clear hB2))
    exact bodyPost_ret (v := .tuple #[.string ⟨#[]⟩, .int .i64 2]) (by simp [results, Tryd.results9, go_sem]) rfl ⟨rfl, B2.out⟩
  · have hb : ((L.length : Int) != (l.length : Int)) = true := by simp [bne]; omega
    clear h hne HWD
    go_enter Tryd.func9, Tryd.ntmps9
    go_wp2_with (first
      | (go_at_call 16; refine HP.out.mono ?_; rintro e w1 ⟨⟨a1, c1, rfl, hs1, hn1⟩, hB1⟩; clear hs1 hn1; have B1 : Hid (Below w.heap.size w w1) := hB1; clear hB1))
    exact bodyPost_ret (v := .tuple #[.string ⟨#[]⟩, .int .i64 2]) (by simp [results, Tryd.results9, go_sem]) rfl ⟨rfl, B1.out⟩
theorem SL.cells {w : World} {b o : Nat} {l : List ByteArray} (h : SL w (some ⟨b, o, none⟩) l) : ∀ j u, (l.map Value.string)[j]? = some u → w.cell? ((⟨b, o, none⟩ : Addr).add j) = some u := fun j u hj => by
  have hlt : j < l.length := by have := (List.getElem?_eq_some_iff.1 hj).1; simpa using this
  obtain ⟨b', o', e, hc⟩ := h j hlt
  obtain ⟨rfl, rfl⟩ : b' = b ∧ o' = o := by simpa [eq_comm] using e
  rw [List.getElem?_map, List.getElem?_eq_getElem hlt] at hj
  simp at hj
  subst hj
  unfold Addr.add
  by_cases h0 : j = 0
  · subst h0; simpa using hc
  · simpa [h0] using hc
theorem SL.cellsA {w : World} {ad : Addr} {l : List ByteArray} (h : SL w (some ad) l) : ∀ j u, (l.map Value.string)[j]? = some u → w.cell? (ad.add j) = some u := fun j u hj => by
  have hlt : j < l.length := by have := (List.getElem?_eq_some_iff.1 hj).1; simpa using this
  obtain ⟨b, o, e, _⟩ := h j hlt
  cases e
  exact SL.cells h j u hj
theorem one_own9 {w : World} {b base : Nat} {s : ByteArray} (h : IHolds w b 9 [.string s]) (hb : base ≤ b) : w.ownsRow base 9 1 (.slice (some ⟨b, 0, none⟩) 1 1) 1 ([s].map Value.string) :=
  ⟨rfl, Or.inr ⟨b, 1, #[.string s], rfl, hb, h, Nat.le_refl _, by unfold maxLen; omega, rfl, rfl⟩⟩
theorem Sz.head {z : Nat} {l : List ByteArray} (hl : l.length ≤ 1048576) (h : all32 l = true) : Sz (fourT z :: l) := ⟨by simp; omega, fun p hp => by
  rcases List.mem_cons.1 hp with rfl | hp
  · rw [fourT_size]; omega
  · have := List.all_eq_true.1 h p hp
    simp at this
    omega⟩
set_option maxHeartbeats 2000000 in
theorem refHead_good (w : World) (z : Nat) (hz : z ≤ 1048576) {a : Option Addr} {c : Nat} {l : List ByteArray} (hl : l.length ≤ 1048576) (hs : SL w a l) (hac : a = none → c = 0) (h1 : l.length = (cover 0 z).length) (h2 : all32 l = true) : Calls Tryd.prog 9 #[.int .i64 (z : Int), .slice a l.length c] w fun e w' => e = .returned (.tuple #[.string (tgF lHead (fourT z :: l)), .int .i64 0]) ∧ Below w.heap.size w w' := by
  have HP : Hid (Calls Tryd.prog 16 #[.int .i64 ((0 : Nat) : Int), .int .i64 (z : Int)] w fun e w' => (∃ a c, e = .returned (.slice a (cover 0 z).length c) ∧ SPL w' a (cover 0 z) ∧ (cover 0 z = [] → a = none ∧ c = 0)) ∧ Below w.heap.size w w') := parts16 1048576 0 z (by omega) (by omega) hz w
  have HWD : Hid (∀ V, Below w.heap.size w V → Calls Tryd.prog 20 #[.slice a l.length c] V fun e w' => e = .returned (.bool true) ∧ Below V.heap.size V w') := fun V hV => by have q := wide20 (c := c) hl (hs.of_below hV); rw [show l.all (fun p => decide (p.size = 32)) = true from h2] at q; exact q
  have H22 : Hid (∀ V, Calls Tryd.prog 22 #[.int .i64 (z : Int)] V fun e w' => e = .returned (.string (fourT z)) ∧ Below V.heap.size V w') := fun V => F.refFourB_any z (by omega) V
  have HT : Hid (∀ V a' c', Below w.heap.size w V → SL V a' (fourT z :: l) → Calls Tryd.prog 21 #[.string lHead, .slice a' (1 + l.length) c'] V fun e w' => e = .returned (.string (tgF lHead (fourT z :: l))) ∧ Below V.heap.size V w') := fun V a' c' hV hS => by
    have q := tagR w lHead (fourT z :: l) V a' c' hV (by decide) (Sz.head hl h2) hS
    rw [List.length_cons, Nat.add_comm] at q
    exact q
  have z0 : ¬ (z : Int) < 0 := by omega
  have z1 : ¬ (1048576 : Int) < (z : Int) := by omega
  have hb : (((cover 0 z).length : Int) != (l.length : Int)) = false := by rw [h1]; simp [bne]
  obtain ⟨i0, hi0, hz0, hz1, hz2⟩ := info_parts info9
  have HS : Hid (SL w a l) := hs
  generalize (cover 0 z) = L at *
  generalize tgF lHead (fourT z :: l) = DD at *
  generalize hF4 : fourT z = F4 at *
  unfold lHead at *
  have H1 : Hid (l.length = L.length) := h1
  clear hs h1 h2 hF4
  cases a with
  | none =>
    obtain rfl := hac rfl
    have hl0 : l = [] := by
      cases l with
      | nil => rfl
      | cons s l => obtain ⟨b, o, e, _⟩ := HS.out 0 (by simp); cases e
    subst hl0
    have hL : L = [] := List.length_eq_zero_iff.1 H1.out.symm
    subst hL
    clear hac hb H1
    go_enter Tryd.func9, Tryd.ntmps9
    go_wp2_with (first
      | (go_at_call 16; refine HP.out.mono ?_; rintro e w1 ⟨⟨a1, c1, rfl, hs1, hn1⟩, hB1⟩; clear hs1 hn1; have B1 : Hid (Below w.heap.size w w1) := hB1; clear hB1)
      | (go_at_call 20; refine (HWD.out _ B1.out).mono ?_; rintro e w2 ⟨rfl, hB2⟩; have B2 : Hid (Below w.heap.size w w2) := B1.out.trans (hB2.mono B1.out.size); clear hB2)
      | (go_at_call 22; refine (H22.out _).mono ?_; rintro e w3 ⟨rfl, hB3⟩; have B3 : Hid (Below w.heap.size w w3) := B2.out.trans (hB3.mono B2.out.size); have B4 : Hid (Below w.heap.size w (w3.alloc (.cells #[.string F4] 9))) := B3.out.trans ((nB w3 _).mono B3.out.size); have S4 : Hid (SL (w3.alloc (.cells #[.string F4] 9)) (some ⟨w3.heap.size, 0, none⟩) [F4]) := IHolds.sl (l := [F4]) (IHolds.new w3 9 [.string F4]); clear hB3)
      | (go_at_call 21; refine (HT.out _ _ _ B4.out S4.out).mono ?_; rintro e w5 ⟨rfl, hB5⟩; have B5 : Hid (Below w.heap.size w w5) := B4.out.trans (hB5.mono B4.out.size); clear hB5))
    exact bodyPost_ret (v := .tuple #[.string DD, .int .i64 0]) (by simp [results, Tryd.results9, go_sem]) rfl ⟨rfl, B5.out⟩
  | some ad =>
    clear hac H1
    go_enter Tryd.func9, Tryd.ntmps9
    go_wp2_with (first
      | (go_at_call 16; refine HP.out.mono ?_; rintro e w1 ⟨⟨a1, c1, rfl, hs1, hn1⟩, hB1⟩; clear hs1 hn1; have B1 : Hid (Below w.heap.size w w1) := hB1; clear hB1)
      | (go_at_call 20; refine (HWD.out _ B1.out).mono ?_; rintro e w2 ⟨rfl, hB2⟩; have B2 : Hid (Below w.heap.size w w2) := B1.out.trans (hB2.mono B1.out.size); clear hB2)
      | (go_at_call 22; refine (H22.out _).mono ?_; rintro e w3 ⟨rfl, hB3⟩; have B3 : Hid (Below w.heap.size w w3) := B2.out.trans (hB3.mono B2.out.size); have B4 : Hid (Below w.heap.size w (w3.alloc (.cells #[.string F4] 9))) := B3.out.trans ((nB w3 _).mono B3.out.size); have O4 : Hid ((w3.alloc (.cells #[.string F4] 9)).ownsRow w.heap.size 9 1 (.slice (some ⟨w3.heap.size, 0, none⟩) 1 1) 1 ([F4].map Value.string)) := one_own9 (IHolds.new w3 9 [.string F4]) B3.out.size; clear hB3)
      | (at_builtin; refine wpList_append_own _ rfl (.tmp 25) (.tmp 26) 22 rfl w.heap.size 9 i0 (.string ⟨#[]⟩) 1 16 Tryd.underlying22 hi0 hz0 hz1 hz2 rfl (by decide) (.slice (some ⟨w3.heap.size, 0, none⟩) 1 1) 1 ([F4].map Value.string) rfl O4.out ad l.length c (l.map Value.string) rfl (by simp) ((HS.out.of_below B4.out).cellsA) (fun u hu => by obtain ⟨s, _, rfl⟩ := List.mem_map.1 hu; rfl) (by unfold maxLen; omega) (by omega) B4.out.size ?_; intro v5 w5 hown hgrow hn; have B5 : Hid (Below w.heap.size w w5) := B4.out.grown hgrow B4.out.size (fun k hk => (O4.out.lt k hk).1); obtain ⟨a5, c5, rfl, s5⟩ := own_sl (qs := F4 :: l) (by simp; omega) hown; have S5 : Hid (SL w5 a5 (F4 :: l)) := s5; clear hown hgrow hn s5)
      | (go_at_call 21; refine (HT.out _ _ _ B5.out S5.out).mono ?_; rintro e w6 ⟨rfl, hB6⟩; have B6 : Hid (Below w.heap.size w w6) := B5.out.trans (hB6.mono B5.out.size); clear hB6))
    exact bodyPost_ret (v := .tuple #[.string DD, .int .i64 0]) (by simp [results, Tryd.results9, go_sem]) rfl ⟨rfl, B6.out⟩
end Go.Proofs.YtckgihloiecdmaaDoor
