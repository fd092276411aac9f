/- Plan; how many gates a network has. -/
import Derived.Test.YtelfcapjegncfaaGb
set_option linter.unusedSimpArgs false
set_option linter.unusedVariables false
set_option maxRecDepth 100000
namespace Go.Proofs.Ytelfcapjegncfaa
open Go.RowKit Go.Deep Go.PlainAid

theorem on_all : ∀ (f : Nat) (l : List Nat), l.length ≤ f → l.length ≤ 256 → OnC l
  | f, l, hf, h => by
    by_cases hl : l.length < 2
    · exact on_low hl
    · match f, hf with
      | 0, hf => omega
      | f + 1, hf => exact on_step hl h (on_all f (ev l) (by rw [ev_len]; omega) (by rw [ev_len]; omega)) (on_all f (od l) (by rw [od_len]; omega) (by rw [od_len]; omega))
theorem gatesOn22 {l : List Nat} (h : l.length ≤ 256) : OnC l := on_all l.length l (Nat.le_refl _) h
/-- The gates of the network for n. -/
def net (n : Nat) : List (Nat × Nat) := gates (List.range n)
theorem net_le {n : Nat} (h : n ≤ 256) : (net n).length ≤ 4096 := gates_le (by rw [List.length_range]; exact h)
theorem net_lt {n : Nat} : ∀ g ∈ net n, g.1 < n ∧ g.2 < n := gates_mem (fun x => x < n) (List.range n).length (List.range n) (Nat.le_refl _) (fun x hx => List.mem_range.1 hx)
theorem gatesFor13 (w : World) (n : Nat) (hn : n ≤ 256) : Calls Try.prog 13 #[.int .i64 (n : Int)] w fun e w' => (∃ v, e = .returned v ∧ w'.ownsRow w.heap.size 28 2 v (net n).length (gvs (net n))) ∧ Below w.heap.size w w' := by
  have H17 : Hid (∀ V, Calls Try.prog 17 #[.int .i64 (n : Int)] V fun e w' => e = .returned (.slice (some ⟨V.heap.size, 0, none⟩) n n) ∧ IHolds w' V.heap.size 3 (ivs (List.range n)) ∧ Below V.heap.size V w') := fun V => upTo17 V n hn
  have H22 : Hid (∀ V a c, VL V a (ivs (List.range n)) → Calls Try.prog 22 #[.slice a n c] V fun e w' => (∃ v, e = .returned v ∧ w'.ownsRow V.heap.size 28 2 v (net n).length (gvs (net n))) ∧ Below V.heap.size V w') := fun V a c h => by
    have q := gatesOn22 (l := List.range n) (by rw [List.length_range]; exact hn) V a c h
    rw [List.length_range] at q
    exact q
  go_enter Try.func13, Try.ntmps13
  go_wp2_with (first
    | (go_at_call 17; refine (H17.out _).mono ?_; rintro e w1 ⟨rfl, hI, hB⟩; have V1 : Hid (VL w1 (some ⟨w.heap.size, 0, none⟩) (ivs (List.range n))) := VL.of_holds hI; have B1 : Hid (Below w.heap.size w w1) := hB; clear hI hB)
    | (go_at_call 22; refine (H22.out _ _ _ V1.out).mono ?_; rintro e w2 ⟨⟨v, rfl, hO⟩, hB⟩; have O2 : Hid (w2.ownsRow w1.heap.size 28 2 v (net n).length (gvs (net n))) := hO; have B2 : Hid (Below w1.heap.size w1 w2) := hB; clear hO hB)
    | fail)
  go_ret
  exact ⟨⟨_, rfl, own_mono O2.out B1.out.size⟩, B1.out.trans (B2.out.mono B1.out.size)⟩
theorem plan6_no (w : World) (z : Int) (h : z < 1 ∨ 256 < z) : Calls Try.prog 6 #[.int .i64 z] w fun e w' => e = .returned (.tuple #[.slice none 0 0, .int .i64 4]) ∧ w' = w := by
  by_cases h1 : z < 1
  · clear h
    go_enter Try.func6, Try.ntmps6
    go_wp2_with fail
    go_ret2
    exact ⟨rfl, rfl⟩
  · have h2 : 256 < z := by omega
    clear h
    go_enter Try.func6, Try.ntmps6
    go_wp2_with fail
    go_ret2
    exact ⟨rfl, rfl⟩
theorem plan6_yes (w : World) (n : Nat) (h1 : 1 ≤ n) (hn : n ≤ 256) : Calls Try.prog 6 #[.int .i64 (n : Int)] w fun e w' => (∃ v, e = .returned (.tuple #[v, .int .i64 0]) ∧ w'.ownsRow w.heap.size 28 2 v (net n).length (gvs (net n))) ∧ Below w.heap.size w w' := by
  have H : Hid (∀ V, Calls Try.prog 13 #[.int .i64 (n : Int)] V fun e w' => (∃ v, e = .returned v ∧ w'.ownsRow V.heap.size 28 2 v (net n).length (gvs (net n))) ∧ Below V.heap.size V w') := fun V => gatesFor13 V n hn
  have e1 : ¬ (n : Int) < 1 := by omega
  have e2 : ¬ 256 < (n : Int) := by omega
  go_enter Try.func6, Try.ntmps6
  go_wp2_with (go_at_call 13; refine (H.out _).mono ?_; rintro e w2 ⟨⟨v, rfl, hO⟩, hB⟩; have O2 : Hid (w2.ownsRow w.heap.size 28 2 v (net n).length (gvs (net n))) := hO; have B2 : Hid (Below w.heap.size w w2) := hB; clear hO hB)
  go_ret2
  exact ⟨⟨_, rfl, O2.out⟩, B2.out⟩
/-- A list that grows. -/
def Inc (l : List Nat) : Prop := ∀ i j, i < j → j < l.length → l.getD i 0 < l.getD j 0
theorem ev_getD {l : List Nat} {i : Nat} (h : i < l.length / 2) : (ev l).getD i 0 = l.getD (2 * i) 0 := by
  rw [getD_at (by rw [ev_len]; exact h)]
  simp [ev, evN]
theorem od_getD {l : List Nat} {i : Nat} (h : i < l.length / 2) : (od l).getD i 0 = l.getD (2 * i + 1) 0 := by
  rw [getD_at (by rw [od_len]; omega)]
  unfold od
  rw [List.getElem_append_left (by rw [odN_len]; exact h)]
  simp [odN]
theorem od_getD_last {l : List Nat} (h : l.length % 2 = 1) : (od l).getD (l.length / 2) 0 = l.getD (l.length - 1) 0 := by
  rw [getD_at (by rw [od_len]; omega)]
  simp only [od_odd h]
  rw [List.getElem_append_right (by rw [odN_len]; omega)]
  simp
theorem Inc.ev {l : List Nat} (h : Inc l) : Inc (ev l) := fun i j hij hj => by
  rw [ev_len] at hj
  rw [ev_getD (by omega), ev_getD hj]
  exact h _ _ (by omega) (by omega)
theorem Inc.od {l : List Nat} (h : Inc l) : Inc (od l) := fun i j hij hj => by
  rw [od_len] at hj
  by_cases hj2 : j < l.length / 2
  · rw [od_getD (by omega), od_getD hj2]
    exact h _ _ (by omega) (by omega)
  · have e : j = l.length / 2 := by omega
    rw [od_getD (by omega), e, od_getD_last (by omega)]
    exact h _ _ (by omega) (by omega)
theorem Inc.gates : ∀ (f : Nat) (l : List Nat), l.length ≤ f → Inc l → ∀ g ∈ gates l, g.1 < g.2
  | f, l, hf, h, g, hg => by
    by_cases hl : l.length < 2
    · rw [gates_low hl] at hg; cases hg
    · rw [gates_step hl] at hg
      have hp : ∀ m, m ≤ l.length / 2 → g ∈ prs l m → g.1 < g.2 := fun m hm hg => by
        simp only [prs, List.mem_map, List.mem_range] at hg
        obtain ⟨k, hk, rfl⟩ := hg
        exact h _ _ (by omega) (by omega)
      match f, hf with
      | 0, hf => omega
      | f + 1, hf =>
        rcases List.mem_append.1 hg with hg | hg
        · rcases List.mem_append.1 hg with hg | hg
          · rcases List.mem_append.1 hg with hg | hg
            · exact hp _ (Nat.le_refl _) hg
            · exact Inc.gates f _ (by rw [ev_len]; omega) h.ev g hg
          · exact Inc.gates f _ (by rw [od_len]; omega) h.od g hg
        · exact hp _ (by omega) hg
theorem net_inc {n : Nat} : ∀ g ∈ net n, g.1 < g.2 := Inc.gates (List.range n).length _ (Nat.le_refl _) (fun i j hij hj => by
  rw [getD_at hj, getD_at (by omega)]
  simpa using hij)
/-- The least k with 2 to the k not below i (up to 256). -/
def lg (i : Nat) : Nat := ((List.range 9).find? (fun k => decide (i ≤ 2 ^ k))).getD 9
theorem lg_is : ∀ i < 257, ∀ k < 9, i ≤ 2 ^ k → (∀ q < k, 2 ^ q < i) → lg i = k := by decide +kernel
theorem lg_le : ∀ i < 257, i ≤ 2 ^ lg i ∧ lg i < 9 := by decide +kernel
def wt : Nat → Nat
  | 0 => 0
  | n + 1 => wt n + (if n + 1 < 2 then 0 else lg (n + 1))
theorem cnt_wt : ∀ n < 257, cnt 9 n = wt n := by decide +kernel
theorem wt_le : ∀ n < 257, wt n ≤ 4096 := by decide +kernel
theorem net_wt {n : Nat} (h : n ≤ 256) : (net n).length = wt n := by
  unfold net
  rw [gates_len 8 _ (by rw [List.length_range]; omega), List.length_range]
  exact cnt_wt n (by omega)
end Go.Proofs.Ytelfcapjegncfaa
