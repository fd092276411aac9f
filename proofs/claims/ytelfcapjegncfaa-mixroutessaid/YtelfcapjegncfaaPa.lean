/- The gates of a network, plain. -/
import Derived.Test.YtelfcapjegncfaaProg
set_option linter.unusedSimpArgs false
set_option linter.unusedVariables false
set_option maxRecDepth 100000
namespace Go.Proofs.Ytelfcapjegncfaa
open Go

/-- The k-th two of a list. -/
def gX (l : List Nat) (k : Nat) : Nat × Nat := (l.getD (2 * k) 0, l.getD (2 * k + 1) 0)
/-- The first m twos. -/
def prs (l : List Nat) (m : Nat) : List (Nat × Nat) := (List.range m).map (gX l)
def evN (l : List Nat) (m : Nat) : List Nat := (List.range m).map fun k => l.getD (2 * k) 0
def odN (l : List Nat) (m : Nat) : List Nat := (List.range m).map fun k => l.getD (2 * k + 1) 0
/-- The first one of each two. -/
def ev (l : List Nat) : List Nat := evN l (l.length / 2)
/-- All others. -/
def od (l : List Nat) : List Nat := odN l (l.length / 2) ++ (if l.length % 2 = 1 then [l.getD (l.length - 1) 0] else [])
theorem prs_len (l : List Nat) (m : Nat) : (prs l m).length = m := by simp [prs]
theorem evN_len (l : List Nat) (m : Nat) : (evN l m).length = m := by simp [evN]
theorem odN_len (l : List Nat) (m : Nat) : (odN l m).length = m := by simp [odN]
theorem ev_len (l : List Nat) : (ev l).length = l.length / 2 := by simp [ev, evN]
theorem od_len (l : List Nat) : (od l).length = l.length - l.length / 2 := by
  unfold od
  rw [List.length_append, odN_len]
  split
  · simp; omega
  · simp; omega
theorem prs_succ (l : List Nat) (m : Nat) : prs l (m + 1) = prs l m ++ [gX l m] := by simp [prs, List.range_succ]
theorem evN_succ (l : List Nat) (m : Nat) : evN l (m + 1) = evN l m ++ [l.getD (2 * m) 0] := by simp [evN, List.range_succ]
theorem odN_succ (l : List Nat) (m : Nat) : odN l (m + 1) = odN l m ++ [l.getD (2 * m + 1) 0] := by simp [odN, List.range_succ]
theorem prs_take (l : List Nat) (m k : Nat) (h : k ≤ m) : (prs l m).take k = prs l k := by
  unfold prs
  rw [← List.map_take, List.take_range, Nat.min_eq_left h]
theorem od_even {l : List Nat} (h : ¬ l.length % 2 = 1) : od l = odN l (l.length / 2) := by simp [od, h]
theorem od_odd {l : List Nat} (h : l.length % 2 = 1) : od l = odN l (l.length / 2) ++ [l.getD (l.length - 1) 0] := by simp [od, h]
/-- The gates on a list of wires. -/
def gates (l : List Nat) : List (Nat × Nat) := if h : l.length < 2 then [] else prs l (l.length / 2) ++ gates (ev l) ++ gates (od l) ++ prs l ((l.length - 1) / 2)
termination_by l.length
decreasing_by
  · rw [ev_len]; omega
  · rw [od_len]; omega
theorem gates_low {l : List Nat} (h : l.length < 2) : gates l = [] := by rw [gates, dif_pos h]
theorem gates_step {l : List Nat} (h : ¬ l.length < 2) : gates l = prs l (l.length / 2) ++ gates (ev l) ++ gates (od l) ++ prs l ((l.length - 1) / 2) := by rw [gates, dif_neg h]
/-- How many gates there are. -/
def cnt (f n : Nat) : Nat := match f with
  | 0 => 0
  | f + 1 => if n < 2 then 0 else n / 2 + cnt f (n / 2) + cnt f (n - n / 2) + (n - 1) / 2
theorem gates_len : ∀ (f : Nat) (l : List Nat), l.length ≤ 2 ^ f → (gates l).length = cnt (f + 1) l.length
  | 0, l, h => by
    rw [gates_low (by simpa using Nat.lt_succ_of_le h), cnt, if_pos (by simpa using Nat.lt_succ_of_le h)]
    rfl
  | f + 1, l, h => by
    by_cases hl : l.length < 2
    · rw [gates_low hl, cnt, if_pos hl]; rfl
    · have hp : 2 ^ (f + 1) = 2 * 2 ^ f := by rw [Nat.pow_succ]; omega
      rw [gates_step hl, cnt, if_neg hl, List.length_append, List.length_append, List.length_append, prs_len, prs_len, gates_len f (ev l) (by rw [ev_len]; omega), gates_len f (od l) (by rw [od_len]; omega), ev_len, od_len]
theorem cnt_le : ∀ (f n : Nat), n ≤ 256 → cnt f n ≤ n * f
  | 0, n, h => by simp [cnt]
  | f + 1, n, h => by
    unfold cnt
    split
    · omega
    · have h1 := cnt_le f (n / 2) (by omega)
      have h2 := cnt_le f (n - n / 2) (by omega)
      have h3 : n / 2 * f + (n - n / 2) * f = n * f := by rw [← Nat.add_mul]; congr 1; omega
      rw [Nat.mul_add, Nat.mul_one]
      omega
theorem gates_le {l : List Nat} (h : l.length ≤ 256) : (gates l).length ≤ 4096 := by
  rw [gates_len 8 l (by omega)]
  have := cnt_le (8 + 1) l.length h
  omega
theorem getD_at {l : List Nat} {i : Nat} (hi : i < l.length) : l.getD i 0 = l[i] := by simp [List.getD_eq_getElem?_getD, hi]
theorem lt_getD {l : List Nat} {n i : Nat} (h : ∀ x ∈ l, x < n) (hi : i < l.length) : l.getD i 0 < n := by
  rw [getD_at hi]
  exact h _ (List.getElem_mem hi)
theorem ev_mem {l : List Nat} {x : Nat} (h : x ∈ ev l) : ∃ k, k < l.length / 2 ∧ x = l.getD (2 * k) 0 := by
  simp only [ev, evN, List.mem_map, List.mem_range] at h
  obtain ⟨k, h1, h2⟩ := h
  exact ⟨k, h1, h2.symm⟩
theorem getD_mem {l : List Nat} {i : Nat} (hi : i < l.length) : l.getD i 0 ∈ l := by
  rw [getD_at hi]; exact List.getElem_mem hi
theorem ev_sub {l : List Nat} : ∀ x ∈ ev l, x ∈ l := fun x hx => by
  obtain ⟨k, hk, rfl⟩ := ev_mem hx
  exact getD_mem (by omega)
theorem od_sub {l : List Nat} : ∀ x ∈ od l, x ∈ l := fun x hx => by
  unfold od at hx
  rcases List.mem_append.1 hx with hx | hx
  · simp only [odN, List.mem_map, List.mem_range] at hx
    obtain ⟨k, hk, rfl⟩ := hx
    exact getD_mem (by omega)
  · split at hx
    · rw [List.mem_singleton] at hx
      subst hx
      exact getD_mem (by omega)
    · cases hx
/-- What holds of a list's wires holds of its gates' wires. -/
theorem gates_mem (P : Nat → Prop) : ∀ (f : Nat) (l : List Nat), l.length ≤ f → (∀ x ∈ l, P x) → ∀ g ∈ gates l, P g.1 ∧ P g.2
  | f, l, hf, h, g, hg => by
    by_cases hl : l.length < 2
    · rw [gates_low hl] at hg; cases hg
    · rw [gates_step hl] at hg
      have hp : ∀ m, m ≤ l.length / 2 → g ∈ prs l m → P g.1 ∧ P g.2 := fun m hm hg => by
        simp only [prs, List.mem_map, List.mem_range] at hg
        obtain ⟨k, hk, rfl⟩ := hg
        exact ⟨h _ (getD_mem (by omega)), h _ (getD_mem (by omega))⟩
      match f, hf with
      | 0, hf => omega
      | f + 1, hf =>
        rcases List.mem_append.1 hg with hg | hg
        · rcases List.mem_append.1 hg with hg | hg
          · rcases List.mem_append.1 hg with hg | hg
            · exact hp _ (Nat.le_refl _) hg
            · exact gates_mem P f (ev l) (by rw [ev_len]; omega) (fun x hx => h x (ev_sub x hx)) g hg
          · exact gates_mem P f (od l) (by rw [od_len]; omega) (fun x hx => h x (od_sub x hx)) g hg
        · exact hp _ (by omega) hg
end Go.Proofs.Ytelfcapjegncfaa
