/- Gates on other wires; who goes first and who second. -/
import Derived.Test.YtelfcapjegncfaaPb
import Derived.Test.YtelfcapjegncfaaQb
set_option linter.unusedSimpArgs false
set_option linter.unusedVariables false
set_option maxRecDepth 100000
namespace Go.Proofs.Ytelfcapjegncfaa
open Go

theorem getD_set {l : List Nat} {i v : Nat} (h : i < l.length) (j : Nat) : (l.set i v).getD j 0 = if j = i then v else l.getD j 0 := by
  simp only [List.getD_eq_getElem?_getD, List.getElem?_set]
  by_cases e : i = j
  · subst e; simp [h]
  · rw [if_neg e, if_neg (fun q => e q.symm)]
theorem swp_getD {l : List Nat} {X Y : Nat} {c : Bool} (hX : X < l.length) (hY : Y < l.length) (j : Nat) : (swp l (X, Y) c).getD j 0 = if j = Y then twY (l.getD X 0) (l.getD Y 0) c else if j = X then twX (l.getD X 0) (l.getD Y 0) c else l.getD j 0 := by
  unfold swp
  rw [getD_set (by simpa using hY), getD_set hX]
theorem range_getD {n i : Nat} (h : i < n) : (List.range n).getD i 0 = i := by simp [List.getD_eq_getElem?_getD, h]
theorem map_getD {α : Type} {f : Nat → Nat} {n i : Nat} (h : i < n) : ((List.range n).map f).getD i 0 = f i := by simp [List.getD_eq_getElem?_getD, h]
theorem lmap_getD {L : List Nat} {φ : Nat → Nat} {i : Nat} (h : i < L.length) : (L.map φ).getD i 0 = φ (L.getD i 0) := by simp [List.getD_eq_getElem?_getD, h]
theorem ev_map (L : List Nat) (φ : Nat → Nat) : ev (L.map φ) = (ev L).map φ := by
  unfold ev evN
  rw [List.map_map, List.length_map]
  apply List.map_congr_left
  intro k hk
  rw [List.mem_range] at hk
  exact lmap_getD (by omega)
theorem od_map (L : List Nat) (φ : Nat → Nat) : od (L.map φ) = (od L).map φ := by
  unfold od odN
  rw [List.map_append, List.map_map, List.length_map]
  congr 1
  · apply List.map_congr_left
    intro k hk
    rw [List.mem_range] at hk
    exact lmap_getD (by omega)
  · split
    · rw [lmap_getD (by omega)]; rfl
    · rfl
theorem prs_map (L : List Nat) (φ : Nat → Nat) {m : Nat} (h : m ≤ L.length / 2) : prs (L.map φ) m = (prs L m).map fun g => (φ g.1, φ g.2) := by
  unfold prs
  rw [List.map_map]
  apply List.map_congr_left
  intro k hk
  rw [List.mem_range] at hk
  show ((L.map φ).getD (2 * k) 0, (L.map φ).getD (2 * k + 1) 0) = _
  rw [lmap_getD (by omega), lmap_getD (by omega)]
  rfl
theorem gates_map (φ : Nat → Nat) : ∀ (f : Nat) (L : List Nat), L.length ≤ f → gates (L.map φ) = (gates L).map fun g => (φ g.1, φ g.2)
  | f, L, hf => by
    by_cases hl : L.length < 2
    · rw [gates_low hl, gates_low (by rw [List.length_map]; exact hl)]; rfl
    · match f, hf with
      | 0, hf => omega
      | f + 1, hf =>
        rw [gates_step hl, gates_step (by rw [List.length_map]; exact hl), List.map_append, List.map_append, List.map_append, List.length_map, prs_map L φ (Nat.le_refl _), prs_map L φ (by omega), ev_map, od_map, gates_map φ f (ev L) (by rw [ev_len]; omega), gates_map φ f (od L) (by rw [od_len]; omega)]
/-- Gates on other wires do the same there. -/
theorem runP_map {φ ψ : Nat → Nat} {m N : Nat} (hφ : ∀ i < m, φ i < N) (hi : ∀ i < m, ∀ j < m, φ i = φ j → i = j) : ∀ (gs : List (Nat × Nat)) (cs : List Bool) (A R : List Nat), A.length = N → R.length = m → (∀ g ∈ gs, g.1 < m ∧ g.2 < m) → (∀ j < m, A.getD (φ j) 0 = ψ (R.getD j 0)) →
    (∀ j < m, (runP (gs.map fun g => (φ g.1, φ g.2)) cs A).getD (φ j) 0 = ψ ((runP gs cs R).getD j 0)) ∧ (∀ x, (∀ j < m, x ≠ φ j) → (runP (gs.map fun g => (φ g.1, φ g.2)) cs A).getD x 0 = A.getD x 0)
  | [], cs, A, R, _, _, _, h => ⟨h, fun _ _ => rfl⟩
  | g :: gs, [], A, R, _, _, _, h => ⟨h, fun _ _ => rfl⟩
  | (X, Y) :: gs, c :: cs, A, R, hA, hR, hg, h => by
    obtain ⟨hX, hY⟩ := hg (X, Y) (by simp)
    dsimp only at hX hY
    have key : ∀ j < m, (swp A (φ X, φ Y) c).getD (φ j) 0 = ψ ((swp R (X, Y) c).getD j 0) := by
      intro j hj
      rw [swp_getD (by rw [hA]; exact hφ X hX) (by rw [hA]; exact hφ Y hY), swp_getD (by rw [hR]; exact hX) (by rw [hR]; exact hY)]
      by_cases e1 : j = Y
      · subst e1
        rw [if_pos rfl, if_pos rfl]
        unfold twY
        split
        · exact h X hX
        · exact h j hj
      · rw [if_neg e1, if_neg (fun q => e1 (hi j hj Y hY q))]
        by_cases e2 : j = X
        · subst e2
          rw [if_pos rfl, if_pos rfl]
          unfold twX
          split
          · exact h Y hY
          · exact h j hj
        · rw [if_neg e2, if_neg (fun q => e2 (hi j hj X hX q))]
          exact h j hj
    obtain ⟨q1, q2⟩ := runP_map hφ hi gs cs (swp A (φ X, φ Y) c) (swp R (X, Y) c) (by rw [swp_len, hA]) (by rw [swp_len, hR]) (fun g hg' => hg g (by simp [hg'])) key
    refine ⟨q1, fun x hx => ?_⟩
    show (runP (gs.map fun g => (φ g.1, φ g.2)) cs (swp A (φ X, φ Y) c)).getD x 0 = _
    rw [q2 x hx, swp_getD (by rw [hA]; exact hφ X hX) (by rw [hA]; exact hφ Y hY), if_neg (hx Y hY), if_neg (hx X hX)]
/-- The first or the last gates. -/
theorem prs_run (b : Nat → Bool) (A : List Nat) : ∀ (k : Nat), 2 * k ≤ A.length →
    (∀ i < k, (runP ((List.range k).map fun i => (2 * i, 2 * i + 1)) ((List.range k).map b) A).getD (2 * i) 0 = twX (A.getD (2 * i) 0) (A.getD (2 * i + 1) 0) (b i) ∧ (runP ((List.range k).map fun i => (2 * i, 2 * i + 1)) ((List.range k).map b) A).getD (2 * i + 1) 0 = twY (A.getD (2 * i) 0) (A.getD (2 * i + 1) 0) (b i)) ∧
    (∀ j, 2 * k ≤ j → (runP ((List.range k).map fun i => (2 * i, 2 * i + 1)) ((List.range k).map b) A).getD j 0 = A.getD j 0)
  | 0, _ => ⟨fun i hi => by omega, fun j _ => rfl⟩
  | k + 1, h => by
    obtain ⟨q1, q2⟩ := prs_run b A k (by omega)
    have e : runP ((List.range (k + 1)).map fun i => (2 * i, 2 * i + 1)) ((List.range (k + 1)).map b) A = swp (runP ((List.range k).map fun i => (2 * i, 2 * i + 1)) ((List.range k).map b) A) (2 * k, 2 * k + 1) (b k) := by
      rw [List.range_succ, List.map_append, List.map_append, runP_append (by simp)]
      rfl
    rw [e]
    have hl := runP_len ((List.range k).map fun i => (2 * i, 2 * i + 1)) ((List.range k).map b) A
    generalize runP ((List.range k).map fun i => (2 * i, 2 * i + 1)) ((List.range k).map b) A = B at *
    have s := swp_getD (l := B) (X := 2 * k) (Y := 2 * k + 1) (c := b k) (by omega) (by omega)
    rw [q2 (2 * k) (by omega), q2 (2 * k + 1) (by omega)] at s
    refine ⟨fun i hi => ?_, fun j hj => ?_⟩
    · by_cases ei : i = k
      · subst ei
        rw [s, s, if_neg (by omega), if_pos rfl, if_pos rfl]
        exact ⟨rfl, rfl⟩
      · rw [s, s, if_neg (by omega), if_neg (by omega), if_neg (by omega), if_neg (by omega)]
        exact q1 i (by omega)
    · rw [s, if_neg (by omega), if_neg (by omega)]
      exact q2 j (by omega)
theorem prs_range {n k : Nat} (h : k ≤ n / 2) : prs (List.range n) k = (List.range k).map fun i => (2 * i, 2 * i + 1) := by
  unfold prs
  apply List.map_congr_left
  intro i hi
  rw [List.mem_range] at hi
  unfold gX
  rw [range_getD (by omega), range_getD (by omega)]
theorem ev_range (n : Nat) : ev (List.range n) = (List.range (n / 2)).map fun i => 2 * i := by
  unfold ev evN
  rw [List.length_range]
  apply List.map_congr_left
  intro i hi
  rw [List.mem_range] at hi
  rw [range_getD (by omega)]
def ph1 (h i : Nat) : Nat := if i < h then 2 * i + 1 else 2 * h
theorem od_range (n : Nat) : od (List.range n) = (List.range (n - n / 2)).map (ph1 (n / 2)) := by
  unfold od odN
  rw [List.length_range]
  have e1 : ((List.range (n / 2)).map fun k => (List.range n).getD (2 * k + 1) 0) = (List.range (n / 2)).map (ph1 (n / 2)) := by
    apply List.map_congr_left
    intro i hi
    rw [List.mem_range] at hi
    rw [range_getD (by omega), ph1, if_pos hi]
  rw [e1]
  by_cases h : n % 2 = 1
  · rw [if_pos h, range_getD (by omega), show n - n / 2 = n / 2 + 1 by omega, List.range_succ, List.map_append]
    congr 1
    show [n - 1] = [ph1 (n / 2) (n / 2)]
    rw [ph1, if_neg (by omega)]
    congr 1
    omega
  · rw [if_neg h, List.append_nil, show n - n / 2 = n / 2 by omega]
section
variable {l : List Nat} {S : Nat → Bool}
/-- Of two that come out together: who goes first, who goes second. -/
def ns (l : List Nat) (S : Nat → Bool) (i : Nat) : Nat := if S (oo l (2 * i)) then oo l (2 * i + 1) else oo l (2 * i)
def sc (l : List Nat) (S : Nat → Bool) (i : Nat) : Nat := if S (oo l (2 * i)) then oo l (2 * i) else oo l (2 * i + 1)
theorem fl_two (i : Nat) : fl (2 * i) = 2 * i + 1 := by unfold fl; split <;> omega
theorem pair_S (hg : Good l S) {i : Nat} (hi : i < l.length / 2) : S (oo l (2 * i + 1)) = !S (oo l (2 * i)) := by
  have := hg.g3 (2 * i) (by omega) (by rw [fl_two]; omega)
  rw [fl_two] at this
  exact this
theorem ns_S (hg : Good l S) {i : Nat} (hi : i < l.length / 2) : S (ns l S i) = false := by
  unfold ns
  have := pair_S hg hi
  split
  · rename_i h; rw [this, h]; rfl
  · rename_i h; simpa using h
theorem sc_S (hg : Good l S) {i : Nat} (hi : i < l.length / 2) : S (sc l S i) = true := by
  unfold sc
  have := pair_S hg hi
  split
  · rename_i h; exact h
  · rename_i h; rw [this]; simpa using h
theorem ns_lt (hp : PM l) {i : Nat} (hi : i < l.length / 2) : ns l S i < l.length := by
  unfold ns; split
  · exact hp.o_lt (by omega)
  · exact hp.o_lt (by omega)
theorem sc_lt (hp : PM l) {i : Nat} (hi : i < l.length / 2) : sc l S i < l.length := by
  unfold sc; split
  · exact hp.o_lt (by omega)
  · exact hp.o_lt (by omega)
theorem filt (hg : Good l S) : ∀ k, k ≤ l.length / 2 → (l.take (2 * k)).filter (fun r => !S r) = (List.range k).map (ns l S) ∧ (l.take (2 * k)).filter S = (List.range k).map (sc l S)
  | 0, _ => by simp
  | k + 1, h => by
    obtain ⟨q1, q2⟩ := filt hg k (by omega)
    have hk := pair_S hg (show k < l.length / 2 by omega)
    rw [show 2 * (k + 1) = 2 * k + 1 + 1 by omega, List.take_succ_eq_append_getElem (show 2 * k + 1 < l.length by omega), List.take_succ_eq_append_getElem (show 2 * k < l.length by omega), List.range_succ, List.map_append, List.map_append, List.filter_append, List.filter_append, List.filter_append, List.filter_append, q1, q2]
    rw [← getD_at (show 2 * k + 1 < l.length by omega), ← getD_at (show 2 * k < l.length by omega), List.append_assoc, List.append_assoc]
    have e1 : l.getD (2 * k) 0 = oo l (2 * k) := rfl
    have e2 : l.getD (2 * k + 1) 0 = oo l (2 * k + 1) := rfl
    rw [e1, e2]
    simp only [List.map_cons, List.map_nil, ns, sc, List.filter_cons, List.filter_nil]
    cases hs : S (oo l (2 * k)) with
    | true => rw [hs] at hk; simp [hk]
    | false => rw [hs] at hk; simp [hk]
theorem filt0 (hg : Good l S) : l.filter (fun r => !S r) = (List.range (l.length / 2)).map (ns l S) := by
  have q := (filt hg (l.length / 2) (Nat.le_refl _)).1
  by_cases h : l.length % 2 = 1
  · have e : l = l.take (2 * (l.length / 2)) ++ [oo l (l.length - 1)] := by
      have := List.take_succ_eq_append_getElem (show 2 * (l.length / 2) < l.length by omega)
      rw [List.take_of_length_le (by omega)] at this
      rw [← getD_at (show 2 * (l.length / 2) < l.length by omega)] at this
      rw [show oo l (l.length - 1) = l.getD (2 * (l.length / 2)) 0 by unfold oo; congr 1; omega]
      exact this
    have q4 := hg.g4 (by omega)
    generalize oo l (l.length - 1) = x at *
    rw [← q]
    conv => lhs; rw [e]
    rw [List.filter_append]
    simp [q4]
  · rw [List.take_of_length_le (by omega)] at q
    exact q
theorem filt1 (hg : Good l S) : l.filter S = (List.range (l.length / 2)).map (sc l S) ++ (if l.length % 2 = 1 then [oo l (l.length - 1)] else []) := by
  have q := (filt hg (l.length / 2) (Nat.le_refl _)).2
  by_cases h : l.length % 2 = 1
  · rw [if_pos h]
    have e : l = l.take (2 * (l.length / 2)) ++ [oo l (l.length - 1)] := by
      have := List.take_succ_eq_append_getElem (show 2 * (l.length / 2) < l.length by omega)
      rw [List.take_of_length_le (by omega)] at this
      rw [← getD_at (show 2 * (l.length / 2) < l.length by omega)] at this
      rw [show oo l (l.length - 1) = l.getD (2 * (l.length / 2)) 0 by unfold oo; congr 1; omega]
      exact this
    have q4 := hg.g4 (by omega)
    generalize oo l (l.length - 1) = x at *
    rw [← q]
    conv => lhs; rw [e]
    rw [List.filter_append]
    simp [q4]
  · rw [List.take_of_length_le (by omega)] at q
    rw [if_neg h, List.append_nil]
    exact q
end
end Go.Proofs.Ytelfcapjegncfaa
