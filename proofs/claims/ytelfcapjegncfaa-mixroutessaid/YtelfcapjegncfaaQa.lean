/- Who goes second, plain. -/
import Derived.Test.YtelfcapjegncfaaPa
set_option linter.unusedSimpArgs false
set_option linter.unusedVariables false
set_option maxRecDepth 100000
namespace Go.Proofs.Ytelfcapjegncfaa
open Go

theorem nodup_le : ∀ (n : Nat) (l : List Nat), l.Nodup → (∀ x ∈ l, x < n) → l.length ≤ n
  | 0, l, _, h => by
    cases l with
    | nil => simp
    | cons x l => exact absurd (h x (by simp)) (by omega)
  | n + 1, l, hd, h => by
    by_cases hm : n ∈ l
    · have h1 := nodup_le n (l.erase n) (hd.erase n) (fun x hx => by
        have h2 := (List.Nodup.mem_erase_iff hd).1 hx
        have := h x h2.2
        have := h2.1
        omega)
      rw [List.length_erase_of_mem hm] at h1
      omega
    · have := nodup_le n l hd (fun x hx => by
        have h1 := h x hx
        have : x ≠ n := fun e => hm (e ▸ hx)
        omega)
      omega
/-- An order: each number from 0 on below its length, once. -/
structure PM (l : List Nat) : Prop where
  lt : ∀ x ∈ l, x < l.length
  nd : l.Nodup
/-- Who is on a wire; on which wire a row is. -/
def oo (l : List Nat) (i : Nat) : Nat := l.getD i 0
def wo (l : List Nat) (r : Nat) : Nat := l.idxOf r
section
variable {l : List Nat}
theorem PM.mem (h : PM l) {r : Nat} (hr : r < l.length) : r ∈ l := by
  apply Classical.byContradiction
  intro hn
  have := nodup_le l.length (r :: l) (List.nodup_cons.2 ⟨hn, h.nd⟩) (fun x hx => by
    rcases List.mem_cons.1 hx with rfl | hx
    · exact hr
    · exact h.lt x hx)
  simp at this
  omega
theorem PM.o_lt (h : PM l) {i : Nat} (hi : i < l.length) : oo l i < l.length := by
  unfold oo
  rw [getD_at hi]
  exact h.lt _ (List.getElem_mem hi)
theorem PM.w_lt (h : PM l) {r : Nat} (hr : r < l.length) : wo l r < l.length := List.idxOf_lt_length_of_mem (h.mem hr)
theorem PM.o_w (h : PM l) {r : Nat} (hr : r < l.length) : oo l (wo l r) = r := by
  unfold oo
  rw [getD_at (h.w_lt hr)]
  exact List.getElem_idxOf (h.w_lt hr)
theorem PM.w_o (h : PM l) {i : Nat} (hi : i < l.length) : wo l (oo l i) = i := by
  have h1 := h.w_lt (h.o_lt hi)
  have q : l[wo l (oo l i)]'h1 = oo l i := (getD_at h1).symm.trans (h.o_w (h.o_lt hi))
  exact (List.getElem_inj h.nd).1 (q.trans (getD_at hi))
end
/-- Who shares a gate. -/
def fl (r : Nat) : Nat := if r % 2 = 0 then r + 1 else r - 1
theorem fl_fl (r : Nat) : fl (fl r) = r := by unfold fl; split <;> split <;> omega
theorem fl_ne (r : Nat) : fl r ≠ r := by unfold fl; split <;> omega
theorem fl_half (r : Nat) : fl r / 2 = r / 2 := by unfold fl; split <;> omega
theorem fl_not {r n : Nat} (hr : r < n) (h : ¬ fl r < n) : r = n - 1 ∧ n % 2 = 1 := by unfold fl at h; split at h <;> omega
theorem fl_last {n : Nat} (h : n % 2 = 1) : fl (n - 1) = n := by unfold fl; split <;> omega
/-- Who comes out beside. -/
def gg (l : List Nat) (r : Nat) : Nat := oo l (fl (wo l r))
section
variable {l : List Nat}
theorem gg_lt (h : PM l) {r : Nat} (hf : fl (wo l r) < l.length) : gg l r < l.length := h.o_lt hf
theorem gg_w (h : PM l) {r : Nat} (hf : fl (wo l r) < l.length) : wo l (gg l r) = fl (wo l r) := h.w_o hf
theorem gg_f (h : PM l) {r : Nat} (hr : r < l.length) (hf : fl (wo l r) < l.length) : fl (wo l (gg l r)) < l.length := by
  rw [gg_w h hf, fl_fl]; exact h.w_lt hr
theorem gg_gg (h : PM l) {r : Nat} (hr : r < l.length) (hf : fl (wo l r) < l.length) : gg l (gg l r) = r := by
  unfold gg
  rw [h.w_o hf, fl_fl, h.o_w hr]
theorem gg_ne (h : PM l) {r : Nat} (hf : fl (wo l r) < l.length) : gg l r ≠ r := fun e => by
  have := gg_w h hf
  rw [e] at this
  exact fl_ne _ this.symm
def upd (P : Nat → Bool) (r : Nat) : Nat → Bool := fun x => if x = r then true else P x
theorem upd_same (P : Nat → Bool) (r : Nat) : upd P r r = true := by simp [upd]
theorem upd_other {P : Nat → Bool} {r x : Nat} (h : x ≠ r) : upd P r x = P x := by simp [upd, h]
theorem upd_of {P : Nat → Bool} {r x : Nat} (h : P x = true) : upd P r x = true := by unfold upd; split <;> simp_all
/-- What is placed fits together. -/
structure Cl (l : List Nat) (P S : Nat → Bool) : Prop where
  a : ∀ x < l.length, S x = true → P x = true
  b : ∀ x < l.length, P x = true → fl x < l.length → P (fl x) = true ∧ S (fl x) = !S x
  b' : ∀ x < l.length, P x = true → ¬ fl x < l.length → S x = true
  c : ∀ x < l.length, P x = true → fl (wo l x) < l.length → P (gg l x) = true ∧ S (gg l x) = !S x
  c' : ∀ x < l.length, P x = true → ¬ fl (wo l x) < l.length → S x = true
/-- A way is under way, from r0, with r next, os behind it. -/
structure Ch (l : List Nat) (P S : Nat → Bool) (r0 r os : Nat) : Prop where
  a : ∀ x < l.length, S x = true → P x = true
  b : ∀ x < l.length, P x = true → fl x < l.length → P (fl x) = true ∧ S (fl x) = !S x
  b' : ∀ x < l.length, P x = true → ¬ fl x < l.length → S x = true
  c' : ∀ x < l.length, P x = true → ¬ fl (wo l x) < l.length → S x = true
  on : os < l.length
  pr : P r0 = true
  sr : S r0 = true
  po : P os = true
  so : S os = false
  go : fl (wo l os) < l.length
  gr : gg l os = r
  c : ∀ x < l.length, P x = true → x ≠ r0 → x ≠ os → fl (wo l x) < l.length → P (gg l x) = true ∧ S (gg l x) = !S x
  d : P r = true → r = r0
theorem Ch.close {P S : Nat → Bool} {r0 r os : Nat} (hp : PM l) (h0 : r0 < l.length) (h : Ch l P S r0 r os) (hr : P r = true) : Cl l P S ∧ fl (wo l r0) < l.length := by
  obtain rfl := h.d hr
  have e1 : gg l r = os := by rw [← h.gr]; exact gg_gg hp h.on h.go
  have e2 : fl (wo l r) < l.length := by have := gg_f hp h.on h.go; rw [h.gr] at this; exact this
  refine ⟨⟨h.a, h.b, h.b', fun x hx px hf => ?_, h.c'⟩, e2⟩
  by_cases h1 : x = r
  · subst h1
    rw [e1]
    exact ⟨h.po, by rw [h.so, h.sr]; rfl⟩
  · by_cases h2 : x = os
    · subst h2
      rw [h.gr]
      exact ⟨h.pr, by rw [h.so, h.sr]; rfl⟩
    · exact h.c x hx px h1 h2 hf
/-- The first step of a way. -/
theorem Cl.begin {P S : Nat → Bool} {r0 : Nat} (hp : PM l) (h0 : r0 < l.length) (h : Cl l P S) (hr : P r0 = false) (hf : fl r0 < l.length) (hw : fl (wo l (fl r0)) < l.length) (hl : ¬ fl (wo l r0) < l.length → True) :
    Ch l (upd (upd P r0) (fl r0)) (upd S r0) r0 (gg l (fl r0)) (fl r0) := by
  have hfp : P (fl r0) = false := by
    cases q : P (fl r0) with
    | false => rfl
    | true =>
      have := (h.b _ hf q (by rw [fl_fl]; exact h0)).1
      rw [fl_fl, hr] at this
      cases this
  have hsf : S (fl r0) = false := by
    cases q : S (fl r0) with
    | false => rfl
    | true => rw [h.a _ hf q] at hfp; cases hfp
  have pP : ∀ x, x ≠ r0 → x ≠ fl r0 → upd (upd P r0) (fl r0) x = P x := fun x h1 h2 => by rw [upd_other h2, upd_other h1]
  have pr : upd (upd P r0) (fl r0) r0 = true := by rw [upd_other (fun e => fl_ne _ e.symm), upd_same]
  have pf : upd (upd P r0) (fl r0) (fl r0) = true := upd_same _ _
  have sf : upd S r0 (fl r0) = false := by rw [upd_other (fl_ne _)]; exact hsf
  refine ⟨?_, ?_, ?_, ?_, hf, pr, upd_same _ _, pf, sf, hw, rfl, ?_, ?_⟩
  · intro x hx hs
    by_cases e1 : x = r0
    · rw [e1]; exact pr
    · by_cases e2 : x = fl r0
      · rw [e2]; exact pf
      · rw [upd_other e1] at hs
        rw [pP x e1 e2]
        exact h.a x hx hs
  · intro x hx px hfx
    by_cases e1 : x = r0
    · subst e1
      exact ⟨pf, by rw [sf, upd_same]; rfl⟩
    · by_cases e2 : x = fl r0
      · subst e2
        rw [fl_fl]
        exact ⟨pr, by rw [sf, upd_same]; rfl⟩
      · rw [pP x e1 e2] at px
        obtain ⟨q1, q2⟩ := h.b x hx px hfx
        have n1 : fl x ≠ r0 := fun e => e2 (by rw [← e, fl_fl])
        have n2 : fl x ≠ fl r0 := fun e => e1 (by have := congrArg fl e; rw [fl_fl, fl_fl] at this; exact this)
        rw [pP _ n1 n2, upd_other n1, upd_other e1]
        exact ⟨q1, q2⟩
  · intro x hx px hfx
    by_cases e1 : x = r0
    · rw [e1]; exact upd_same _ _
    · by_cases e2 : x = fl r0
      · exact absurd (by rw [e2, fl_fl]; exact h0) hfx
      · rw [pP x e1 e2] at px
        rw [upd_other e1]
        exact h.b' x hx px hfx
  · intro x hx px hfx
    by_cases e1 : x = r0
    · rw [e1]; exact upd_same _ _
    · by_cases e2 : x = fl r0
      · exact absurd (by rw [e2]; exact hw) hfx
      · rw [pP x e1 e2] at px
        rw [upd_other e1]
        exact h.c' x hx px hfx
  · intro x hx px e1 e2 hfx
    rw [pP x e1 e2] at px
    obtain ⟨q1, q2⟩ := h.c x hx px hfx
    have n1 : gg l x ≠ r0 := fun e => by rw [e, hr] at q1; cases q1
    have n2 : gg l x ≠ fl r0 := fun e => by rw [e, hfp] at q1; cases q1
    rw [pP _ n1 n2, upd_other n1, upd_other e1]
    exact ⟨q1, q2⟩
  · intro hpg
    apply Classical.byContradiction
    intro e1
    have e2 : gg l (fl r0) ≠ fl r0 := gg_ne hp hw
    rw [pP _ e1 e2] at hpg
    have := (h.c _ (gg_lt hp hw) hpg (gg_f hp hf hw)).1
    rw [gg_gg hp hf hw, hfp] at this
    cases this
/-- A further step. -/
theorem Ch.step {P S : Nat → Bool} {r0 r os : Nat} (hp : PM l) (h0 : r0 < l.length) (h : Ch l P S r0 r os) (hr : P r = false) (hf : fl r < l.length) (hw : fl (wo l (fl r)) < l.length) :
    Ch l (upd (upd P r) (fl r)) (upd S r) r0 (gg l (fl r)) (fl r) := by
  have hrn : r < l.length := by rw [← h.gr]; exact gg_lt hp h.go
  have e1 : gg l r = os := by rw [← h.gr]; exact gg_gg hp h.on h.go
  have e2 : fl (wo l r) < l.length := by have := gg_f hp h.on h.go; rw [h.gr] at this; exact this
  have hfp : P (fl r) = false := by
    cases q : P (fl r) with
    | false => rfl
    | true =>
      have := (h.b _ hf q (by rw [fl_fl]; exact hrn)).1
      rw [fl_fl, hr] at this
      cases this
  have hsf : S (fl r) = false := by
    cases q : S (fl r) with
    | false => rfl
    | true => rw [h.a _ hf q] at hfp; cases hfp
  have pP : ∀ x, x ≠ r → x ≠ fl r → upd (upd P r) (fl r) x = P x := fun x h1 h2 => by rw [upd_other h2, upd_other h1]
  have pr : upd (upd P r) (fl r) r = true := by rw [upd_other (fun e => fl_ne _ e.symm), upd_same]
  have pf : upd (upd P r) (fl r) (fl r) = true := upd_same _ _
  have sf : upd S r (fl r) = false := by rw [upd_other (fl_ne _)]; exact hsf
  have nr0 : r0 ≠ r := fun e => by have := h.pr; rw [e, hr] at this; cases this
  have nf0 : r0 ≠ fl r := fun e => by have := h.pr; rw [e, hfp] at this; cases this
  have nor : os ≠ r := fun e => by have := h.po; rw [e, hr] at this; cases this
  have nof : os ≠ fl r := fun e => by have := h.po; rw [e, hfp] at this; cases this
  refine ⟨?_, ?_, ?_, ?_, hf, by rw [pP _ nr0 nf0]; exact h.pr, by rw [upd_other nr0]; exact h.sr, pf, sf, hw, rfl, ?_, ?_⟩
  · intro x hx hs
    by_cases e1 : x = r
    · rw [e1]; exact pr
    · by_cases e2 : x = fl r
      · rw [e2]; exact pf
      · rw [upd_other e1] at hs
        rw [pP x e1 e2]
        exact h.a x hx hs
  · intro x hx px hfx
    by_cases e1 : x = r
    · subst e1
      exact ⟨pf, by rw [sf, upd_same]; rfl⟩
    · by_cases e2 : x = fl r
      · subst e2
        rw [fl_fl]
        exact ⟨pr, by rw [sf, upd_same]; rfl⟩
      · rw [pP x e1 e2] at px
        obtain ⟨q1, q2⟩ := h.b x hx px hfx
        have n1 : fl x ≠ r := fun e => e2 (by rw [← e, fl_fl])
        have n2 : fl x ≠ fl r := fun e => e1 (by have := congrArg fl e; rw [fl_fl, fl_fl] at this; exact this)
        rw [pP _ n1 n2, upd_other n1, upd_other e1]
        exact ⟨q1, q2⟩
  · intro x hx px hfx
    by_cases e1 : x = r
    · rw [e1]; exact upd_same _ _
    · by_cases e2 : x = fl r
      · exact absurd (by rw [e2, fl_fl]; exact hrn) hfx
      · rw [pP x e1 e2] at px
        rw [upd_other e1]
        exact h.b' x hx px hfx
  · intro x hx px hfx
    by_cases e1 : x = r
    · rw [e1]; exact upd_same _ _
    · by_cases e2 : x = fl r
      · exact absurd (by rw [e2]; exact hw) hfx
      · rw [pP x e1 e2] at px
        rw [upd_other e1]
        exact h.c' x hx px hfx
  · intro x hx px ne0 nef hfx
    by_cases ex : x = r
    · subst ex
      rw [e1, pP _ nor nof, upd_same, upd_other nor]
      exact ⟨h.po, by rw [h.so]; rfl⟩
    · rw [pP x ex nef] at px
      by_cases eo : x = os
      · subst eo
        rw [h.gr, upd_same, upd_other ex, h.so]
        exact ⟨pr, rfl⟩
      · obtain ⟨q1, q2⟩ := h.c x hx px ne0 eo hfx
        have n1 : gg l x ≠ r := fun e => by rw [e, hr] at q1; cases q1
        have n2 : gg l x ≠ fl r := fun e => by rw [e, hfp] at q1; cases q1
        rw [pP _ n1 n2, upd_other n1, upd_other ex]
        exact ⟨q1, q2⟩
  · intro hpg
    apply Classical.byContradiction
    intro ne0
    have nef : gg l (fl r) ≠ fl r := gg_ne hp hw
    by_cases ex : gg l (fl r) = r
    · have := gg_gg hp hf hw
      rw [ex, e1] at this
      exact nof this
    · rw [pP _ ex nef] at hpg
      by_cases eo : gg l (fl r) = os
      · have := gg_gg hp hf hw
        rw [eo, h.gr] at this
        exact fl_ne r this.symm
      · have := (h.c _ (gg_lt hp hw) hpg ne0 eo (gg_f hp hf hw)).1
        rw [gg_gg hp hf hw, hfp] at this
        cases this
/-- A way that ends at the row without a first gate. -/
theorem Cl.single {P S : Nat → Bool} {r : Nat} (hp : PM l) (h0 : r < l.length) (h : Cl l P S) (hr : P r = false) (hf : ¬ fl r < l.length) (hw : ¬ fl (wo l r) < l.length) : Cl l (upd P r) (upd S r) := by
  refine ⟨?_, ?_, ?_, ?_, ?_⟩
  · intro x hx hs
    by_cases e : x = r
    · rw [e]; exact upd_same _ _
    · rw [upd_other e] at hs ⊢; exact h.a x hx hs
  · intro x hx px hfx
    by_cases e : x = r
    · exact absurd (e ▸ hfx) hf
    · rw [upd_other e] at px
      obtain ⟨q1, q2⟩ := h.b x hx px hfx
      have n1 : fl x ≠ r := fun q => by rw [q, hr] at q1; cases q1
      rw [upd_other n1, upd_other n1, upd_other e]
      exact ⟨q1, q2⟩
  · intro x hx px hfx
    by_cases e : x = r
    · rw [e]; exact upd_same _ _
    · rw [upd_other e] at px ⊢; exact h.b' x hx px hfx
  · intro x hx px hfx
    by_cases e : x = r
    · exact absurd (e ▸ hfx) hw
    · rw [upd_other e] at px
      obtain ⟨q1, q2⟩ := h.c x hx px hfx
      have n1 : gg l x ≠ r := fun q => by rw [q, hr] at q1; cases q1
      rw [upd_other n1, upd_other n1, upd_other e]
      exact ⟨q1, q2⟩
  · intro x hx px hfx
    by_cases e : x = r
    · rw [e]; exact upd_same _ _
    · rw [upd_other e] at px ⊢; exact h.c' x hx px hfx
theorem Ch.last {P S : Nat → Bool} {r0 r os : Nat} (hp : PM l) (h0 : r0 < l.length) (h : Ch l P S r0 r os) (hr : P r = false) (hf : ¬ fl r < l.length) (hw : ¬ fl (wo l r0) < l.length) : Cl l (upd P r) (upd S r) := by
  have hrn : r < l.length := by rw [← h.gr]; exact gg_lt hp h.go
  have e1 : gg l r = os := by rw [← h.gr]; exact gg_gg hp h.on h.go
  have nor : os ≠ r := fun e => by have := h.po; rw [e, hr] at this; cases this
  refine ⟨?_, ?_, ?_, ?_, ?_⟩
  · intro x hx hs
    by_cases e : x = r
    · rw [e]; exact upd_same _ _
    · rw [upd_other e] at hs ⊢; exact h.a x hx hs
  · intro x hx px hfx
    by_cases e : x = r
    · exact absurd (e ▸ hfx) hf
    · rw [upd_other e] at px
      obtain ⟨q1, q2⟩ := h.b x hx px hfx
      have n1 : fl x ≠ r := fun q => by rw [q, hr] at q1; cases q1
      rw [upd_other n1, upd_other n1, upd_other e]
      exact ⟨q1, q2⟩
  · intro x hx px hfx
    by_cases e : x = r
    · rw [e]; exact upd_same _ _
    · rw [upd_other e] at px ⊢; exact h.b' x hx px hfx
  · intro x hx px hfx
    by_cases e : x = r
    · subst e
      rw [e1, upd_other nor, upd_same, upd_other nor]
      exact ⟨h.po, by rw [h.so]; rfl⟩
    · rw [upd_other e] at px
      by_cases eo : x = os
      · subst eo
        rw [h.gr, upd_same, upd_same, upd_other e, h.so]
        exact ⟨rfl, rfl⟩
      · have n0 : x ≠ r0 := fun q => hw (q ▸ hfx)
        obtain ⟨q1, q2⟩ := h.c x hx px n0 eo hfx
        have n1 : gg l x ≠ r := fun q => by rw [q, hr] at q1; cases q1
        rw [upd_other n1, upd_other n1, upd_other e]
        exact ⟨q1, q2⟩
  · intro x hx px hfx
    by_cases e : x = r
    · rw [e]; exact upd_same _ _
    · rw [upd_other e] at px ⊢; exact h.c' x hx px hfx
end
end Go.Proofs.Ytelfcapjegncfaa
