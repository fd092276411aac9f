/- The law of routes. -/
import Derived.Test.YtelfcapjegncfaaSi
set_option linter.unusedSimpArgs false
set_option linter.unusedVariables false
set_option maxRecDepth 100000
namespace Go.Proofs.Ytelfcapjegncfaa
open Go.RowKit Go.Deep Go.PlainAid

theorem got_pm {l : List Int} (h : GoT l l.length) : zvs l = ivs (l.map Int.toNat) ∧ PM (l.map Int.toNat) := by
  have g : ∀ j (hj : j < l.length), 0 ≤ l[j] ∧ l[j] < (l.length : Int) ∧ ∀ k (hk : k < j), l[k]'(by omega) ≠ l[j] := fun j hj => by
    obtain ⟨h1, h2, h3⟩ := h j hj
    have e : ∀ k (hk : k < l.length), l.getD k 0 = l[k] := fun k hk => by simp [List.getD_eq_getElem?_getD, hk]
    rw [e j hj] at h1 h2
    refine ⟨h1, h2, fun k hk => ?_⟩
    have := h3 k hk
    rw [e j hj, e k (by omega)] at this
    exact this
  refine ⟨?_, ⟨fun x hx => ?_, ?_⟩⟩
  · apply List.ext_getElem
    · simp [zvs, ivs]
    · intro i h1 h2
      have hi : i < l.length := by simpa [zvs] using h1
      have := (g i hi).1
      simp [zvs, ivs]
      omega
  · obtain ⟨i, hi, rfl⟩ := List.getElem_of_mem hx
    have hi' : i < l.length := by simpa using hi
    have := g i hi'
    simp
    omega
  · rw [List.nodup_iff_pairwise_ne, List.pairwise_iff_getElem]
    intro i j hi hj hij e
    have hj' : j < l.length := by simpa using hj
    have h1 := g i (by omega)
    have h2 := g j hj'
    simp at e
    have := h2.2.2 i hij
    omega
theorem route11_no (w : World) (a : Option Addr) (n c : Nat) (h : n < 1 ∨ 256 < n) : Calls Try.prog 11 #[.slice a n c] w fun e w' => e = .returned (.tuple #[.slice none 0 0, .int .i64 4]) ∧ w' = w := by
  by_cases h1 : n < 1
  · have i1 : (n : Int) < 1 := by omega
    clear h
    go_enter Try.func11, Try.ntmps11
    go_wp2_with fail
    go_ret2
    exact ⟨rfl, rfl⟩
  · have i1 : ¬ (n : Int) < 1 := by omega
    have i2 : 256 < (n : Int) := by omega
    clear h
    go_enter Try.func11, Try.ntmps11
    go_wp2_with fail
    go_ret2
    exact ⟨rfl, rfl⟩
theorem wrong12_no (w : World) (a : Option Addr) (n c : Nat) (h : n < 1 ∨ 256 < n) : Calls Try.prog 12 #[.slice a n c] w fun e w' => e = .returned (.int .i64 4) ∧ w' = w := by
  by_cases h1 : n < 1
  · have i1 : (n : Int) < 1 := by omega
    clear h
    go_enter Try.func12, Try.ntmps12
    go_wp2_with fail
    go_ret
    exact ⟨rfl, rfl⟩
  · have i1 : ¬ (n : Int) < 1 := by omega
    have i2 : 256 < (n : Int) := by omega
    clear h
    go_enter Try.func12, Try.ntmps12
    go_wp2_with fail
    go_ret
    exact ⟨rfl, rfl⟩
theorem route11_form {w : World} {a : Option Addr} {c : Nat} {l : List Int} (h1 : 1 ≤ l.length) (hl : l.length ≤ 256) (hv : VL w a (zvs l)) (hG : ¬ GoT l l.length) : Calls Try.prog 11 #[.slice a l.length c] w fun e w' => e = .returned (.tuple #[.slice none 0 0, .int .i64 2]) ∧ Below w.heap.size w w' := by
  have H : Hid (Calls Try.prog 20 #[.slice a l.length c] w fun e w' => e = .returned (.bool false) ∧ Below w.heap.size w w') := (eachOnce20 hl hv).mono fun e w' ⟨⟨t, he, ht⟩, hb⟩ => by
    cases t with
    | true => exact absurd (ht.1 rfl) hG
    | false => exact ⟨he, hb⟩
  have i1 : ¬ (l.length : Int) < 1 := by omega
  have i2 : ¬ 256 < (l.length : Int) := by omega
  clear hv hG
  go_enter Try.func11, Try.ntmps11
  go_wp2_with (go_at_call 20; refine (H.out).mono ?_; rintro e w1 ⟨rfl, hB⟩; have B1 : Hid (Below w.heap.size w w1) := hB; clear hB H)
  go_ret2
  exact ⟨rfl, B1.out⟩
theorem route11_yes {w : World} {a : Option Addr} {c : Nat} {l : List Int} (h1 : 1 ≤ l.length) (hl : l.length ≤ 256) (hv : VL w a (zvs l)) (hG : GoT l l.length) : Calls Try.prog 11 #[.slice a l.length c] w fun e w' => (∃ v cs, e = .returned (.tuple #[v, .int .i64 0]) ∧ w'.ownsRow w.heap.size 4 1 v cs.length (bvs cs) ∧ cs.length = (net l.length).length ∧ runP (net l.length) cs (List.range l.length) = l.map Int.toNat) ∧ Below w.heap.size w w' := by
  have H : Hid (Calls Try.prog 20 #[.slice a l.length c] w fun e w' => e = .returned (.bool true) ∧ Below w.heap.size w w') := (eachOnce20 hl hv).mono fun e w' ⟨⟨t, he, ht⟩, hb⟩ => by
    cases t with
    | false => exact absurd (ht.2 hG) (by simp)
    | true => exact ⟨he, hb⟩
  obtain ⟨e1, hP⟩ := got_pm hG
  have H21 : Hid (∀ V, Below w.heap.size w V → Calls Try.prog 21 #[.slice a l.length c] V fun e w' => (∃ v cs, e = .returned v ∧ w'.ownsRow V.heap.size 4 1 v cs.length (bvs cs) ∧ cs.length = (net l.length).length ∧ runP (net l.length) cs (List.range l.length) = l.map Int.toNat) ∧ Below V.heap.size V w') := fun V hV => by
    have q := cr_all 256 (l.map Int.toNat) (by simpa using hl) (by simpa using hl) hP V a c (by rw [← e1]; exact hv.of_below hV)
    rw [List.length_map] at q
    exact q
  have i1 : ¬ (l.length : Int) < 1 := by omega
  have i2 : ¬ 256 < (l.length : Int) := by omega
  clear hv hG e1 hP
  go_enter Try.func11, Try.ntmps11
  go_wp2_with (first
    | (go_at_call 20; refine (H.out).mono ?_; rintro e w1 ⟨rfl, hB⟩; have B1 : Hid (Below w.heap.size w w1) := hB; clear hB H)
    | (go_at_call 21; refine (H21.out _ B1.out).mono ?_; rintro e w2 ⟨⟨v, cs, rfl, hO, hc, hr⟩, hB⟩; have B2 : Hid (Below w.heap.size w w2) := B1.out.trans (hB.mono B1.out.size); have O2 : Hid (w2.ownsRow w.heap.size 4 1 v cs.length (bvs cs)) := own_mono hO B1.out.size; have C2 : Hid (cs.length = (net l.length).length) := hc; have R2 : Hid (runP (net l.length) cs (List.range l.length) = l.map Int.toNat) := hr; clear hB hO hc hr)
    | fail)
  go_ret2
  exact ⟨⟨_, _, rfl, O2.out, C2.out, R2.out⟩, B2.out⟩
set_option maxHeartbeats 1000000 in
theorem mixRoutes_walk {w : World} {a : Option Addr} {c : Nat} {l : List Int} (hv : VL w a (zvs l)) : Calls Try.prog 4 #[.slice a l.length c] w fun e w' => e = .returned (.bool true) ∧ Below w.heap.size w w' := by
  by_cases hr : l.length < 1 ∨ 256 < l.length
  · have H11 : Hid (∀ V, Calls Try.prog 11 #[.slice a l.length c] V fun e w' => e = .returned (.tuple #[.slice none 0 0, .int .i64 4]) ∧ w' = V) := fun V => route11_no V a _ c hr
    have H12 : Hid (∀ V, Calls Try.prog 12 #[.slice a l.length c] V fun e w' => e = .returned (.int .i64 4) ∧ w' = V) := fun V => wrong12_no V a _ c hr
    clear hr hv
    generalize l.length = n at *
    go_enter Try.func4, Try.ntmps4
    go_wp2_with (first
      | (go_at_call 11; refine (H11.out _).mono ?_; rintro e ww ⟨rfl, hww⟩; obtain rfl := hww.symm; clear H11)
      | (go_at_call 12; refine (H12.out _).mono ?_; rintro e ww ⟨rfl, hww⟩; obtain rfl := hww.symm; clear H12)
      | fail)
    go_ret
    exact ⟨rfl, Below.refl _ _⟩
  · have h1 : 1 ≤ l.length := by omega
    have hl : l.length ≤ 256 := by omega
    clear hr
    by_cases hG : GoT l l.length
    · have H11 : Hid (Calls Try.prog 11 #[.slice a l.length c] w fun e w' => (∃ v cs, e = .returned (.tuple #[v, .int .i64 0]) ∧ w'.ownsRow w.heap.size 4 1 v cs.length (bvs cs) ∧ cs.length = (net l.length).length ∧ runP (net l.length) cs (List.range l.length) = l.map Int.toNat) ∧ Below w.heap.size w w') := route11_yes h1 hl hv hG
      have H12 : Hid (∀ V, Below w.heap.size w V → Calls Try.prog 12 #[.slice a l.length c] V fun e w' => e = .returned (.int .i64 0) ∧ w' = V) := fun V hV => (wrong12 h1 hl (hv.of_below hV)).mono fun e w' ⟨⟨t, he, h1, _⟩, hw⟩ => ⟨by rw [he, h1 hG], hw⟩
      have VI : Hid (VL w a (ivs (l.map Int.toNat))) := by have q := hv; rw [(got_pm hG).1] at q; exact q
      have H10 : Hid (∀ (V : World) (b : Option Addr) (d : Nat), VL V b (ivs (l.map Int.toNat)) → Below w.heap.size w V → Calls Try.prog 10 #[.slice b l.length d, .slice a l.length c] V fun e w' => e = .returned (.bool true) ∧ Below V.heap.size V w') := fun V b d hb hV => by
        have q := sameInts10 (c := d) (d := c) hb (VI.out.of_below hV) (by rw [List.length_map]; omega)
        rw [List.length_map] at q
        exact q
      clear hG hv
      go_enter Try.func4, Try.ntmps4
      go_wp2_with (first
        | (go_at_call 11; refine (H11.out).mono ?_; rintro e w1 ⟨⟨v, cs, rfl, hO, hc, hr⟩, hB⟩; obtain ⟨aB, cB, rfl, hVB, _⟩ := own_vl hO; have B1 : Hid (Below w.heap.size w w1) := hB; have H9 : Hid (Calls Try.prog 9 #[.int .i64 (l.length : Int), .slice aB cs.length cB] w1 fun e w' => (∃ v, e = .returned (.tuple #[v, .int .i64 0]) ∧ w'.ownsRow w1.heap.size 3 1 v l.length (ivs (l.map Int.toNat))) ∧ Below w1.heap.size w1 w') := (by rw [← hr]; exact run9_yes h1 hl hVB hc); clear hB hO hc hr hVB H11)
        | (go_at_call 12; refine (H12.out _ B1.out).mono ?_; rintro e ww ⟨rfl, hww⟩; obtain rfl := hww.symm; clear H12)
        | (go_at_call 9; refine (H9.out).mono ?_; rintro e w2 ⟨⟨v2, rfl, hO⟩, hB⟩; obtain ⟨aO, cO, rfl, hVO, _⟩ := own_vl hO; have B2 : Hid (Below w.heap.size w w2) := B1.out.trans (hB.mono B1.out.size); have V2 : Hid (VL w2 aO (ivs (l.map Int.toNat))) := hVO; clear hB hO hVO H9)
        | (go_at_call 10; refine (H10.out _ _ _ V2.out B2.out).mono ?_; rintro e w3 ⟨rfl, hB⟩; have B3 : Hid (Below w.heap.size w w3) := B2.out.trans (hB.mono B2.out.size); clear hB H10)
        | fail)
      go_ret
      exact ⟨rfl, B3.out⟩
    · have H11 : Hid (Calls Try.prog 11 #[.slice a l.length c] w fun e w' => e = .returned (.tuple #[.slice none 0 0, .int .i64 2]) ∧ Below w.heap.size w w') := route11_form h1 hl hv hG
      have H12 : Hid (∀ V, Below w.heap.size w V → Calls Try.prog 12 #[.slice a l.length c] V fun e w' => e = .returned (.int .i64 2) ∧ w' = V) := fun V hV => (wrong12 h1 hl (hv.of_below hV)).mono fun e w' ⟨⟨t, he, _, h1⟩, hw⟩ => ⟨by rw [he, h1 hG], hw⟩
      clear hG hv
      go_enter Try.func4, Try.ntmps4
      go_wp2_with (first
        | (go_at_call 11; refine (H11.out).mono ?_; rintro e w1 ⟨rfl, hB⟩; have B1 : Hid (Below w.heap.size w w1) := hB; clear hB H11)
        | (go_at_call 12; refine (H12.out _ B1.out).mono ?_; rintro e ww ⟨rfl, hww⟩; obtain rfl := hww.symm; clear H12)
        | fail)
      go_ret
      exact ⟨rfl, B1.out⟩
end Go.Proofs.Ytelfcapjegncfaa
