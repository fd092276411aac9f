/- Plan of the document; Run. -/
import Derived.Test.YtelfcapjegncfaaTb
set_option linter.unusedSimpArgs false
set_option linter.unusedVariables false
set_option maxRecDepth 100000
namespace Go.Proofs.Ytelfcapjegncfaa
open Go.RowKit Go.Deep Go.PlainAid

theorem ga_all : ∀ (f : Nat) (l : List Nat), l.length ≤ f → l.length ≤ 256 → GaC l
  | f, l, hf, h => by
    by_cases hl : l.length < 2
    · exact ga_low hl
    · by_cases h2 : l.length = 2
      · exact ga_two h2
      · match f, hf with
        | 0, hf => omega
        | f + 1, hf => exact ga_step (by omega) h (ga_all f (ev l) (by rw [ev_len]; omega) (by rw [ev_len]; omega)) (ga_all f (od l) (by rw [od_len]; omega) (by rw [od_len]; omega))
theorem plan7_no (w : World) (z : Int) (h : z < 1 ∨ 256 < z) : Calls Try.prog 7 #[.int .i64 z] w fun e w' => e = .returned (.tuple #[.slice none 0 0, .int .i64 4]) ∧ w' = w := by
  by_cases h1 : z < 1
  · clear h
    go_enter Try.func7, Try.ntmps7
    go_wp2_with fail
    go_ret2
    exact ⟨rfl, rfl⟩
  · have h2 : 256 < z := by omega
    clear h
    go_enter Try.func7, Try.ntmps7
    go_wp2_with fail
    go_ret2
    exact ⟨rfl, rfl⟩
theorem plan7_yes (w : World) (n : Nat) (h1 : 1 ≤ n) (hn : n ≤ 256) : Calls Try.prog 7 #[.int .i64 (n : Int)] w fun e w' => (∃ v, e = .returned (.tuple #[v, .int .i64 0]) ∧ w'.ownsRow w.heap.size 28 2 v (net n).length (gvs (net n))) ∧ Below w.heap.size w w' := by
  have H15 : Hid (∀ V, Calls Try.prog 15 #[.int .i64 (n : Int)] V fun e w' => (∃ v, e = .returned v ∧ w'.ownsRow V.heap.size 3 1 v n (ivs (List.range n))) ∧ Below V.heap.size V w') := fun V => upTo15 V n hn
  have H14 : Hid (∀ V a c, VL V a (ivs (List.range n)) → Calls Try.prog 14 #[.slice a n c] V fun e w' => (∃ v, e = .returned v ∧ w'.ownsRow V.heap.size 28 2 v (net n).length (gvs (net n))) ∧ Below V.heap.size V w') := fun V a c h => by
    have q := ga_all n (List.range n) (by rw [List.length_range]; omega) (by rw [List.length_range]; exact hn) V a c h
    rw [List.length_range] at q
    exact q
  have e1 : ¬ (n : Int) < 1 := by omega
  have e2 : ¬ 256 < (n : Int) := by omega
  go_enter Try.func7, Try.ntmps7
  go_wp2_with (first
    | (go_at_call 15; refine (H15.out _).mono ?_; rintro e w1 ⟨⟨v1, rfl, hO⟩, hB⟩; obtain ⟨a, c, rfl, hV, _⟩ := own_vl hO; have V1 : Hid (VL w1 a (ivs (List.range n))) := hV; have B1 : Hid (Below w.heap.size w w1) := hB; clear hO hB hV)
    | (go_at_call 14; refine (H14.out _ _ _ V1.out).mono ?_; rintro e w2 ⟨⟨v, rfl, hO⟩, hB⟩; have O2 : Hid (w2.ownsRow w1.heap.size 28 2 v (net n).length (gvs (net n))) := hO; have B2 : Hid (Below w1.heap.size w1 w2) := hB; clear hO hB)
    | fail)
  go_ret2
  exact ⟨⟨_, rfl, own_mono O2.out B1.out.size⟩, B1.out.trans (B2.out.mono B1.out.size)⟩
set_option maxHeartbeats 1000000 in
theorem run8_no (w : World) (z : Int) (h : z < 1 ∨ 256 < z) (ac : Option Addr) (m cc : Nat) : Calls Try.prog 8 #[.int .i64 z, .slice ac m cc] w fun e w' => e = .returned (.tuple #[.slice none 0 0, .int .i64 4]) ∧ Below w.heap.size w w' := by
  have H6 : Hid (∀ V, Calls Try.prog 6 #[.int .i64 z] V fun e w' => e = .returned (.tuple #[.slice none 0 0, .int .i64 4]) ∧ w' = V) := fun V => plan6_no V z h
  have B1 : Hid (Below w.heap.size w (w.alloc (.cells #[.slice ac m cc] 22))) := (Below.refl _ _).alloc (Nat.le_refl _) _
  clear h
  go_enter Try.func8, Try.ntmps8
  go_wp2_with (go_at_call 6; refine (H6.out _).mono ?_; rintro e ww ⟨rfl, hww⟩; obtain rfl := hww.symm; clear H6)
  go_ret2
  exact ⟨rfl, B1.out⟩
set_option maxHeartbeats 1000000 in
theorem run8_form (w : World) (n : Nat) (h1 : 1 ≤ n) (hn : n ≤ 256) (ac : Option Addr) (m cc : Nat) (hm : m ≠ (net n).length) : Calls Try.prog 8 #[.int .i64 (n : Int), .slice ac m cc] w fun e w' => e = .returned (.tuple #[.slice none 0 0, .int .i64 2]) ∧ Below w.heap.size w w' := by
  have H6 : Hid (∀ V, Calls Try.prog 6 #[.int .i64 (n : Int)] V fun e w' => (∃ v, e = .returned (.tuple #[v, .int .i64 0]) ∧ w'.ownsRow V.heap.size 28 2 v (net n).length (gvs (net n))) ∧ Below V.heap.size V w') := fun V => plan6_yes V n h1 hn
  have B1 : Hid (Below w.heap.size w (w.alloc (.cells #[.slice ac m cc] 22))) := (Below.refl _ _).alloc (Nat.le_refl _) _
  have I1 : Hid (IHolds (w.alloc (.cells #[.slice ac m cc] 22)) w.heap.size 22 [.slice ac m cc]) := IHolds.new _ _ _
  have e3 : ((m : Int) != ((net n).length : Int)) = true := by simp [bne]; omega
  go_enter Try.func8, Try.ntmps8
  go_wp2_with (go_at_call 6; refine (H6.out _).mono ?_; rintro e w2 ⟨⟨v, rfl, hO⟩, hB⟩; obtain ⟨ag, cg, rfl, _, _⟩ := own_vl hO; have c2 := (I1.out.of_below hB).cell 0 (by simp); have B2 : Hid (Below w.heap.size w w2) := B1.out.trans (hB.mono B1.out.size); clear hO hB H6)
  go_ret2
  exact ⟨rfl, B2.out⟩
set_option maxHeartbeats 2000000 in
theorem run8_yes {w : World} {n : Nat} (h1 : 1 ≤ n) (hn : n ≤ 256) {ac : Option Addr} {cc : Nat} {cs : List Bool} (hcs : VL w ac (bvs cs)) (hm : cs.length = (net n).length) : Calls Try.prog 8 #[.int .i64 (n : Int), .slice ac cs.length cc] w fun e w' => (∃ v, e = .returned (.tuple #[v, .int .i64 0]) ∧ w'.ownsRow w.heap.size 3 1 v n (ivs (runP (net n) cs (List.range n)))) ∧ Below w.heap.size w w' := by
  have H6 : Hid (∀ V, Calls Try.prog 6 #[.int .i64 (n : Int)] V fun e w' => (∃ v, e = .returned (.tuple #[v, .int .i64 0]) ∧ w'.ownsRow V.heap.size 28 2 v (net n).length (gvs (net n))) ∧ Below V.heap.size V w') := fun V => plan6_yes V n h1 hn
  have H17 : Hid (∀ V, Calls Try.prog 17 #[.int .i64 (n : Int)] V fun e w' => e = .returned (.slice (some ⟨V.heap.size, 0, none⟩) n n) ∧ IHolds w' V.heap.size 3 (ivs (List.range n)) ∧ Below V.heap.size V w') := fun V => upTo17 V n hn
  have B1 : Hid (Below w.heap.size w (w.alloc (.cells #[.slice ac cs.length cc] 22))) := (Below.refl _ _).alloc (Nat.le_refl _) _
  have I1 : Hid (IHolds (w.alloc (.cells #[.slice ac cs.length cc] 22)) w.heap.size 22 [.slice ac cs.length cc]) := IHolds.new _ _ _
  have e3 : ((cs.length : Int) != ((net n).length : Int)) = false := by simp [bne]; omega
  have H16 : Hid (∀ V ag cg b c, VL V ag (gvs (net n)) → VL V (some ⟨b, 0, none⟩) (ivs (List.range n)) → V.cell? ⟨w.heap.size, 0, none⟩ = some (.slice ac cs.length cc) → Below w.heap.size w V → Calls Try.prog 16 #[.slice ag (net n).length cg, .slice (some ⟨b, 0, none⟩) n c, .func (.func 18) #[] #[.pointer (some ⟨w.heap.size, 0, none⟩)]] V fun e w' => (∃ v, e = .returned v ∧ w'.ownsRow V.heap.size 3 1 v n (ivs (runP (net n) cs (List.range n)))) ∧ Below V.heap.size V w') := fun V ag cg b c g1 g2 g3 g4 => by
    have q := through16 (cg := cg) (c := c) (l0 := List.range n) g1 (by rw [List.length_range]; exact net_lt) (net_le hn) g2 (by rw [List.length_range]; exact h1) (by rw [List.length_range]; exact hn) g3 (hcs.of_below g4) hm
    rw [List.length_range] at q
    exact q
  clear hcs hm
  go_enter Try.func8, Try.ntmps8
  go_wp2_with (first
    | (go_at_call 6; refine (H6.out _).mono ?_; rintro e w2 ⟨⟨v, rfl, hO⟩, hB⟩; obtain ⟨ag, cg, rfl, hV, _⟩ := own_vl hO; have c2 := (I1.out.of_below hB).cell 0 (by simp); have V2 : Hid (VL w2 ag (gvs (net n))) := hV; have B2 : Hid (Below w.heap.size w w2) := B1.out.trans (hB.mono B1.out.size); clear hO hB hV H6)
    | (go_at_call 17; refine (H17.out _).mono ?_; rintro e w3 ⟨rfl, hI, hB⟩; have V3 : Hid (VL w3 ag (gvs (net n))) := V2.out.of_below hB; have B3 : Hid (Below w.heap.size w w3) := B2.out.trans (hB.mono B2.out.size); have L3 : Hid (VL w3 (some ⟨w2.heap.size, 0, none⟩) (ivs (List.range n))) := VL.of_holds hI; have c3 := cell_keep c2 hB; clear hB hI)
    | (go_at_call 16; refine (H16.out _ _ _ _ _ V3.out L3.out c3 B3.out).mono ?_; rintro e w4 ⟨⟨v4, rfl, hO⟩, hB⟩; have O4 : Hid (w4.ownsRow w.heap.size 3 1 v4 n (ivs (runP (net n) cs (List.range n)))) := own_mono hO B3.out.size; have B4 : Hid (Below w.heap.size w w4) := B3.out.trans (hB.mono B3.out.size); clear hO hB)
    | fail)
  go_ret2
  exact ⟨⟨_, rfl, O4.out⟩, B4.out⟩
end Go.Proofs.Ytelfcapjegncfaa
