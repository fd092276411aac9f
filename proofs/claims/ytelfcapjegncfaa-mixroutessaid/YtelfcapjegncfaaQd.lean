/- Waksman's network, plain. -/
import Derived.Test.YtelfcapjegncfaaQc
set_option linter.unusedSimpArgs false
set_option linter.unusedVariables false
set_option maxRecDepth 100000
namespace Go.Proofs.Ytelfcapjegncfaa
open Go

theorem nodup_map {f : Nat → Nat} : ∀ {l : List Nat}, l.Nodup → (∀ x ∈ l, ∀ y ∈ l, f x = f y → x = y) → (l.map f).Nodup
  | [], _, _ => List.nodup_nil
  | a :: l, h, hf => by
    rw [List.nodup_cons] at h
    rw [List.map_cons, List.nodup_cons]
    refine ⟨fun hm => ?_, nodup_map h.2 (fun x hx y hy => hf x (by simp [hx]) y (by simp [hy]))⟩
    obtain ⟨b, hb, e⟩ := List.mem_map.1 hm
    have := hf b (by simp [hb]) a (by simp) e
    exact h.1 (this ▸ hb)
theorem half_eq {x y : Nat} (h : x / 2 = y / 2) : x = y ∨ y = fl x := by
  unfold fl
  split <;> omega
section
variable {l : List Nat} {S : Nat → Bool}
/-- The orders within. -/
def w0 (l : List Nat) (S : Nat → Bool) : List Nat := (l.filter (fun r => !S r)).map (· / 2)
def w1 (l : List Nat) (S : Nat → Bool) : List Nat := (l.filter S).map (· / 2)
theorem lo_eq (hg : Good l S) {x : Nat} (hx : x < l.length) (hs : S x = false) : x / 2 < l.length / 2 ∧ twX (2 * (x / 2)) (2 * (x / 2) + 1) (S (2 * (x / 2))) = x := by
  have hf : fl x < l.length := by
    apply Classical.byContradiction
    intro q
    rw [hg.g2 x hx q] at hs
    cases hs
  have h1 := hg.g1 x hx hf
  rw [hs] at h1
  unfold twX
  by_cases e : x % 2 = 0
  · have e2 : 2 * (x / 2) = x := by omega
    rw [e2, hs]
    have : fl x = x + 1 := by unfold fl; rw [if_pos e]
    exact ⟨by omega, by simp⟩
  · have e2 : fl x = 2 * (x / 2) := by unfold fl; rw [if_neg e]; omega
    rw [e2] at h1
    rw [h1]
    refine ⟨by omega, ?_⟩
    show 2 * (x / 2) + 1 = x
    omega
theorem hi_eq (hg : Good l S) {x : Nat} (hx : x < l.length) (hs : S x = true) (hh : x / 2 < l.length / 2) : twY (2 * (x / 2)) (2 * (x / 2) + 1) (S (2 * (x / 2))) = x := by
  unfold twY
  by_cases e : x % 2 = 0
  · have e2 : 2 * (x / 2) = x := by omega
    rw [e2, hs]
    rfl
  · have e2 : fl x = 2 * (x / 2) := by unfold fl; rw [if_neg e]; omega
    have h1 := hg.g1 x hx (by omega)
    rw [hs, e2] at h1
    rw [h1]
    show 2 * (x / 2) + 1 = x
    omega
theorem w0_is (hg : Good l S) : w0 l S = (List.range (l.length / 2)).map fun i => ns l S i / 2 := by
  unfold w0; rw [filt0 hg, List.map_map]; rfl
theorem w1_is (hg : Good l S) : w1 l S = (List.range (l.length / 2)).map (fun i => sc l S i / 2) ++ (if l.length % 2 = 1 then [oo l (l.length - 1) / 2] else []) := by
  unfold w1; rw [filt1 hg, List.map_append, List.map_map]
  congr 1
  split <;> rfl
theorem w0_len (hg : Good l S) : (w0 l S).length = l.length / 2 := by rw [w0_is hg]; simp
theorem w1_len (hg : Good l S) : (w1 l S).length = l.length - l.length / 2 := by
  rw [w1_is hg]
  split
  · simp; omega
  · simp; omega
theorem w0_PM (hp : PM l) (hg : Good l S) : PM (w0 l S) := by
  refine ⟨fun x hx => ?_, ?_⟩
  · rw [w0_len hg]
    rw [w0_is hg] at hx
    obtain ⟨i, hi, rfl⟩ := List.mem_map.1 hx
    rw [List.mem_range] at hi
    exact (lo_eq hg (ns_lt hp hi) (ns_S hg hi)).1
  · refine nodup_map (hp.nd.filter _) (fun x hx y hy e => ?_)
    rw [List.mem_filter] at hx hy
    have hxl := hp.lt x hx.1
    have hyl := hp.lt y hy.1
    rcases half_eq e with q | q
    · exact q
    · have := hg.g1 x hxl (q ▸ hyl)
      rw [← q] at this
      have h1 := hx.2
      have h2 := hy.2
      rw [this] at h2
      simp at h1 h2
      rw [h1] at h2
      cases h2
theorem w1_PM (hp : PM l) (hg : Good l S) : PM (w1 l S) := by
  refine ⟨fun x hx => ?_, ?_⟩
  · rw [w1_len hg]
    unfold w1 at hx
    obtain ⟨y, hy, rfl⟩ := List.mem_map.1 hx
    have := hp.lt y (List.mem_filter.1 hy).1
    omega
  · refine nodup_map (hp.nd.filter _) (fun x hx y hy e => ?_)
    rw [List.mem_filter] at hx hy
    have hxl := hp.lt x hx.1
    have hyl := hp.lt y hy.1
    rcases half_eq e with q | q
    · exact q
    · have := hg.g1 x hxl (q ▸ hyl)
      rw [← q] at this
      have h1 := hx.2
      have h2 := hy.2
      rw [this, h1] at h2
      cases h2
/-- Which of the first and of the last gates are crossed. -/
def fB (l : List Nat) (S : Nat → Bool) : List Bool := (List.range (l.length / 2)).map fun i => S (2 * i)
def lB (l : List Nat) (S : Nat → Bool) : List Bool := (List.range ((l.length - 1) / 2)).map fun i => S (oo l (2 * i))
theorem waksman (hp : PM l) (hg : Good l S) (h2 : 2 ≤ l.length) {c0 c1 : List Bool} (l0 : c0.length = (net (l.length / 2)).length) (l1 : c1.length = (net (l.length - l.length / 2)).length)
    (r0 : runP (net (l.length / 2)) c0 (List.range (l.length / 2)) = w0 l S) (r1 : runP (net (l.length - l.length / 2)) c1 (List.range (l.length - l.length / 2)) = w1 l S) :
    runP (net l.length) (fB l S ++ c0 ++ c1 ++ lB l S) (List.range l.length) = l := by
  have hw0 := w0_is hg
  have hw1 := w1_is hg
  obtain ⟨n, hn⟩ : ∃ n, n = l.length := ⟨_, rfl⟩
  obtain ⟨h, hh⟩ : ∃ h, h = n / 2 := ⟨_, rfl⟩
  unfold fB lB
  rw [← hn] at l0 l1 r0 r1 hw0 hw1 h2 ⊢
  rw [← hh] at l0 l1 r0 r1 hw0 hw1 ⊢
  have eN : net n = ((List.range h).map fun i => (2 * i, 2 * i + 1)) ++ ((net h).map fun g => (2 * g.1, 2 * g.2)) ++ ((net (n - h)).map fun g => (ph1 h g.1, ph1 h g.2)) ++ ((List.range ((n - 1) / 2)).map fun i => (2 * i, 2 * i + 1)) := by
    unfold net
    rw [gates_step (by rw [List.length_range]; omega), List.length_range, ev_range, od_range, ← hh, gates_map (fun i => 2 * i) h _ (by simp), gates_map (ph1 h) (n - h) _ (by simp), prs_range (by omega), prs_range (by omega)]
  rw [eN, runP_append (by simp [l0, l1]), runP_append (by simp [l0]), runP_append (by simp)]
  obtain ⟨a1, a2⟩ := prs_run (fun i => S (2 * i)) (List.range n) h (by rw [List.length_range]; omega)
  have s1 := runP_len ((List.range h).map fun i => (2 * i, 2 * i + 1)) ((List.range h).map fun i => S (2 * i)) (List.range n)
  rw [List.length_range] at s1
  generalize hA1 : runP ((List.range h).map fun i => (2 * i, 2 * i + 1)) ((List.range h).map fun i => S (2 * i)) (List.range n) = A1 at *
  have b1 : ∀ i < h, A1.getD (2 * i) 0 = twX (2 * i) (2 * i + 1) (S (2 * i)) ∧ A1.getD (2 * i + 1) 0 = twY (2 * i) (2 * i + 1) (S (2 * i)) := fun i hi => by
    have := a1 i hi
    rw [range_getD (by omega), range_getD (by omega)] at this
    exact this
  obtain ⟨c1', c2'⟩ := runP_map (φ := fun i => 2 * i) (ψ := fun r => A1.getD (2 * r) 0) (m := h) (N := n) (fun i hi => by omega) (fun i hi j hj e => by omega) (net h) c0 A1 (List.range h) s1 (List.length_range) net_lt (fun j hj => by rw [range_getD hj])
  rw [r0] at c1'
  have s2 := runP_len ((net h).map fun g => (2 * g.1, 2 * g.2)) c0 A1
  rw [s1] at s2
  generalize runP ((net h).map fun g => (2 * g.1, 2 * g.2)) c0 A1 = A2 at *
  obtain ⟨d1, d2⟩ := runP_map (φ := ph1 h) (ψ := fun r => A2.getD (ph1 h r) 0) (m := n - h) (N := n) (fun i hi => by unfold ph1; split <;> omega) (fun i hi j hj e => by unfold ph1 at e; split at e <;> split at e <;> omega) (net (n - h)) c1 A2 (List.range (n - h)) s2 (List.length_range) net_lt (fun j hj => by rw [range_getD hj])
  rw [r1] at d1
  have s3 := runP_len ((net (n - h)).map fun g => (ph1 h g.1, ph1 h g.2)) c1 A2
  rw [s2] at s3
  generalize runP ((net (n - h)).map fun g => (ph1 h g.1, ph1 h g.2)) c1 A2 = A3 at *
  -- what stands ahead of the last gates
  have t0 : ∀ i < h, A3.getD (2 * i) 0 = ns l S i := fun i hi => by
    have hi' : i < l.length / 2 := by rw [← hn, ← hh]; exact hi
    rw [d2 (2 * i) (fun j hj => by unfold ph1; split <;> omega), c1' i hi, hw0]
    show A1.getD (2 * ((List.range h).map fun i => ns l S i / 2).getD i 0) 0 = _
    rw [map_getD (α := Nat) hi]
    obtain ⟨q1, q2⟩ := lo_eq hg (ns_lt hp hi') (ns_S hg hi')
    rw [← hn, ← hh] at q1
    rw [(b1 _ q1).1]
    exact q2
  have t9 : ∀ x, x < n → S x = true → A2.getD (ph1 h (x / 2)) 0 = x := fun x hx hs => by
    have e1 : ∀ j < h, ph1 h (x / 2) ≠ 2 * j := fun j hj => by unfold ph1; split <;> omega
    rw [c2' _ e1]
    unfold ph1
    split
    · rename_i hlt
      rw [(b1 _ hlt).2]
      exact hi_eq hg (by rw [← hn]; exact hx) hs (by rw [← hn, ← hh]; exact hlt)
    · rename_i hlt
      rw [a2 (2 * h) (Nat.le_refl _), range_getD (by omega)]
      omega
  have t1 : ∀ i < h, A3.getD (2 * i + 1) 0 = sc l S i := fun i hi => by
    have hi' : i < l.length / 2 := by rw [← hn, ← hh]; exact hi
    have q := d1 i (by omega)
    rw [show ph1 h i = 2 * i + 1 by unfold ph1; rw [if_pos hi], hw1] at q
    rw [q]
    have e : ((List.range h).map (fun i => sc l S i / 2) ++ (if n % 2 = 1 then [oo l (n - 1) / 2] else [])).getD i 0 = sc l S i / 2 := by
      rw [List.getD_eq_getElem?_getD, List.getElem?_append_left (by simpa using hi)]
      simp [hi]
    show A2.getD (ph1 h _) 0 = _
    rw [e]
    exact t9 _ (by rw [hn]; exact sc_lt hp hi') (sc_S hg hi')
  have t2 : n % 2 = 1 → A3.getD (n - 1) 0 = oo l (n - 1) := fun hodd => by
    have q := d1 h (by omega)
    rw [show ph1 h h = n - 1 by unfold ph1; rw [if_neg (by omega)]; omega, hw1, if_pos hodd] at q
    rw [q]
    have e : ((List.range h).map (fun i => sc l S i / 2) ++ [oo l (n - 1) / 2]).getD h 0 = oo l (n - 1) / 2 := by
      rw [List.getD_eq_getElem?_getD, List.getElem?_append_right (by simp)]
      simp
    show A2.getD (ph1 h _) 0 = _
    rw [e]
    have := hg.g4 (by omega)
    rw [← hn] at this
    exact t9 _ (by rw [hn]; exact hp.o_lt (by omega)) this
  obtain ⟨f1, f2⟩ := prs_run (fun i => S (oo l (2 * i))) A3 ((n - 1) / 2) (by omega)
  have s4 := runP_len ((List.range ((n - 1) / 2)).map fun i => (2 * i, 2 * i + 1)) ((List.range ((n - 1) / 2)).map fun i => S (oo l (2 * i))) A3
  rw [s3] at s4
  generalize runP ((List.range ((n - 1) / 2)).map fun i => (2 * i, 2 * i + 1)) ((List.range ((n - 1) / 2)).map fun i => S (oo l (2 * i))) A3 = A4 at *
  have fin : ∀ i < n, A4.getD i 0 = oo l i := fun i hi => by
    by_cases hlast : i < 2 * ((n - 1) / 2)
    · obtain ⟨q1, q2⟩ := f1 (i / 2) (by omega)
      rw [t0 _ (by omega), t1 _ (by omega)] at q1 q2
      by_cases he : i % 2 = 0
      · have ei : 2 * (i / 2) = i := by omega
        rw [ei] at q1
        rw [q1]
        unfold twX ns sc
        rw [ei]
        split <;> simp_all
      · have ei : 2 * (i / 2) + 1 = i := by omega
        rw [ei] at q2
        rw [q2]
        unfold twY ns sc
        rw [ei]
        split <;> simp_all
    · rw [f2 i (by omega)]
      by_cases hodd : n % 2 = 1
      · obtain rfl : i = n - 1 := by omega
        exact t2 hodd
      · have q4 := hg.g4 (by omega)
        rw [← hn] at q4
        have hh' : h - 1 < l.length / 2 := by rw [← hn, ← hh]; omega
        have q3 := pair_S hg hh'
        rw [show 2 * (h - 1) + 1 = n - 1 by omega, q4] at q3
        have q5 : S (oo l (2 * (h - 1))) = false := by simpa using q3.symm
        by_cases he : i = n - 1
        · subst he
          have := t1 (h - 1) (by omega)
          rw [show 2 * (h - 1) + 1 = n - 1 by omega] at this
          rw [this]
          unfold sc
          rw [q5, show 2 * (h - 1) + 1 = n - 1 by omega]
          rfl
        · have ei : i = 2 * (h - 1) := by omega
          rw [ei, t0 (h - 1) (by omega)]
          unfold ns
          rw [q5]
          rfl
  apply List.ext_getElem
  · rw [s4, hn]
  · intro i h1 h2'
    have := fin i (by omega)
    unfold oo at this
    rw [getD_at h1, getD_at h2'] at this
    exact this
end
end Go.Proofs.Ytelfcapjegncfaa
