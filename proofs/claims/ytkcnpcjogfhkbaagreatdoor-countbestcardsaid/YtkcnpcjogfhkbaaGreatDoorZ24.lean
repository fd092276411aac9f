/- The strongest ways, and the least set that beats all others: what one says of the other. Plain. -/
import Derived.Test.YtkcnpcjogfhkbaaGreatDoorZ17
set_option linter.unusedSimpArgs false
set_option linter.unusedVariables false
set_option maxRecDepth 100000
namespace Go.Proofs.YtkcnpcjogfhkbaaGreatDoor
/-- A way is as strong as its weakest part. -/
theorem Str.thru {P : Mt} {n : Nat} {M : Mt} (h : Str P n M) {i j k : Nat} (hi : i < n) (hj : j < n) (hk : k < n) (e : i ≠ k) {s : Int} (hs : 1 ≤ s) (h1 : s ≤ M i j) (h2 : s ≤ M j k) : s ≤ M i k := by
  have e1 : i ≠ j := fun q => by subst q; have := h.same i hi; omega
  have e2 : j ≠ k := fun q => by subst q; have := h.same j hj; omega
  exact (h.way i k hi hk e s hs).2 (((h.way i j hi hj e1 s hs).1 h1).trans ((h.way j k hj hk e2 s hs).1 h2) hj)
/-- A stronger way there than back. -/
def Bt (M : Mt) (i j : Nat) : Prop := M j i < M i j
theorem Str.bt {P : Mt} {n : Nat} {M : Mt} (h : Str P n M) {i j k : Nat} (hi : i < n) (hj : j < n) (hk : k < n) (h1 : Bt M i j) (h2 : Bt M j k) : Bt M i k := by
  unfold Bt at *
  have p1 := h.pos j i hj hi
  have p2 := h.pos k j hk hj
  have e : i ≠ k := fun q => by subst q; omega
  by_cases q : M k i < M i k
  · exact q
  · exfalso
    have p3 := h.pos i k hi hk
    by_cases c : M i j ≤ M j k
    · have a := h.thru hi hj hk e (s := M i j) (by omega) (Int.le_refl _) c
      have e2 : j ≠ i := fun q => by subst q; omega
      have b := h.thru hj hk hi e2 (s := M i j) (by omega) c (by omega)
      omega
    · have a := h.thru hi hj hk e (s := M j k) (by omega) (by omega) (Int.le_refl _)
      have e2 : k ≠ j := fun q => by subst q; omega
      have b := h.thru hk hi hj e2 (s := M j k) (by omega) (by omega) (by omega)
      omega
/-- There is one whom nobody has a stronger way to. -/
theorem Str.top {P : Mt} {n : Nat} {M : Mt} (h : Str P n M) : ∀ k, 1 ≤ k → k ≤ n → ∃ x, x < k ∧ ∀ j, j < k → ¬ Bt M j x
  | 0, h1, _ => by omega
  | 1, _, _ => ⟨0, by omega, fun j hj => by have : j = 0 := by omega
                                            subst this; unfold Bt; omega⟩
  | k + 2, _, hk => by
    obtain ⟨x, hx, hj⟩ := Str.top h (k + 1) (by omega) (by omega)
    by_cases q : Bt M (k + 1) x
    · refine ⟨k + 1, by omega, fun j hj2 hb => ?_⟩
      by_cases e : j = k + 1
      · subst e; unfold Bt at hb; omega
      · exact hj j (by omega) (h.bt (by omega) (by omega) (by omega) hb q)
    · refine ⟨x, by omega, fun j hj2 => ?_⟩
      by_cases e : j = k + 1
      · subst e; exact q
      · exact hj j (by omega)
/-- No way leads into a set that beats all others. -/
theorem Dom.no_way {P : Mt} {n : Nat} {f : Nat → Bool} (hf : Dom P n f) {s : Int} {i j : Nat} (hw : Wa P n s i j) : f i = false → f j = false := by
  induction hw with
  | @one j a b c =>
    intro h
    cases q : f j with
    | false => rfl
    | true => have := hf j b q i a h; have := c.1; omega
  | @more k j _ a b c ih =>
    intro h
    have h2 := ih h
    cases q : f j with
    | false => rfl
    | true => have := hf j b q k a h2; have := c.1; omega
/-- Who is not beaten is in it. -/
theorem Str.in_dom {P : Mt} {n : Nat} {M : Mt} (h : Str P n M) {f : Nat → Bool} (hf : Dom P n f) (hp : ∀ i j, i < n → j < n → 0 ≤ P i j) {y x : Nat} (hy : y < n) (fy : f y = true) (hx : x < n) (u : ∀ j, j < n → ¬ Bt M j x) : f x = true := by
  cases q : f x with
  | true => rfl
  | false =>
    exfalso
    refine u y hy ?_
    have e : x ≠ y := fun z => by subst z; rw [q] at fy; cases fy
    have b := hf y hy fy x hx q
    have p := hp x y hx hy
    have w1 : P y x ≤ M y x := (h.way y x hy hx (Ne.symm e) _ (by omega)).2 (.one hy hx ⟨b, Int.le_refl _⟩)
    unfold Bt
    by_cases z : M x y < M y x
    · exact z
    · exfalso
      have w2 := (h.way x y hx hy e 1 (by omega)).1 (by omega)
      have := hf.no_way w2 q
      rw [fy] at this; cases this
/-- Who beats all others is that set alone. -/
theorem Least.alone {P : Mt} {n : Nat} {f : Nat → Bool} (hf : Least P n f) {i : Nat} (hi : i < n) (h : ∀ j, j < n → j ≠ i → P j i < P i j) : lst n f = [i] := by
  have e : (lst n fun a => a == i) = [i] := by
    have key : ∀ m, i < m → (List.range m).filter (fun a => a == i) = [i] := by
      intro m
      induction m with
      | zero => intro h; omega
      | succ m ih =>
        intro hm
        rw [List.range_succ, List.filter_append]
        by_cases q : i < m
        · rw [ih q]; simp; omega
        · have : i = m := by omega
          subst this
          have : (List.range i).filter (fun a => a == i) = [] := by
            rw [List.filter_eq_nil_iff]; intro a ha; simp at ha; simp; omega
          rw [this]; simp
    exact key n hi
  have l : Least P n (fun a => a == i) := by
    refine ⟨fun a ha hb j hj hc => ?_, by rw [e]; simp, fun g _ h1 => by rw [e]; simp; omega⟩
    simp at hb hc
    subst hb
    exact h j hj hc
  rw [hf.same l, e]
end Go.Proofs.YtkcnpcjogfhkbaaGreatDoor
