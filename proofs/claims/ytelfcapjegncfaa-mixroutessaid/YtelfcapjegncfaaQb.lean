/- Ways, plain. -/
import Derived.Test.YtelfcapjegncfaaQa
set_option linter.unusedSimpArgs false
set_option linter.unusedVariables false
set_option maxRecDepth 100000
namespace Go.Proofs.Ytelfcapjegncfaa
open Go

section
variable {l : List Nat}
/-- Between two ways. -/
structure Out (l : List Nat) (P S : Nat → Bool) : Prop where
  cl : Cl l P S
  z : l.length % 2 = 1 → P (oo l (l.length - 1)) = true → P (l.length - 1) = true
  y : P (oo l (l.length - 1)) = true → S (oo l (l.length - 1)) = true
/-- On a way from r0, r next. -/
structure Inn (l : List Nat) (P S : Nat → Bool) (r0 r : Nat) : Prop where
  r0n : r0 < l.length
  rn : r < l.length
  st : (Out l P S ∧ r = r0) ∨ ∃ os, Ch l P S r0 r os
  e1 : l.length % 2 = 1 → r0 = oo l (l.length - 1) ∨ P (l.length - 1) = true
  e2 : r = oo l (l.length - 1) ∨ P (oo l (l.length - 1)) = true
  y : P (oo l (l.length - 1)) = true → S (oo l (l.length - 1)) = true
theorem Inn.fin {P S : Nat → Bool} {r0 r : Nat} (hp : PM l) (h : Inn l P S r0 r) (hr : P r = true) : Out l P S ∧ P r0 = true := by
  rcases h.st with ⟨ho, rfl⟩ | ⟨os, hc⟩
  · exact ⟨ho, hr⟩
  · obtain ⟨hcl, hf⟩ := hc.close hp h.r0n hr
    refine ⟨⟨hcl, fun hodd _ => ?_, h.y⟩, hc.pr⟩
    rcases h.e1 hodd with e | e
    · rw [e, hp.w_o (by have := h.rn; omega), fl_last hodd] at hf
      omega
    · exact e
theorem Inn.brk {P S : Nat → Bool} {r0 r : Nat} (hp : PM l) (h : Inn l P S r0 r) (hr : P r = false) (hf : ¬ fl r < l.length) : Out l (upd P r) (upd S r) ∧ upd P r r0 = true := by
  have hn := h.rn
  obtain ⟨er, hodd⟩ := fl_not hn hf
  have hw : ¬ fl (wo l r0) < l.length := by
    rcases h.e1 hodd with e | e
    · rw [e, hp.w_o (by omega), fl_last hodd]; omega
    · rw [← er, hr] at e; cases e
  have yy : upd P r (oo l (l.length - 1)) = true → upd S r (oo l (l.length - 1)) = true := fun q => by
    by_cases e : oo l (l.length - 1) = r
    · rw [e]; exact upd_same _ _
    · rw [upd_other e] at q ⊢; exact h.y q
  rcases h.st with ⟨ho, rfl⟩ | ⟨os, hc⟩
  · exact ⟨⟨ho.cl.single hp hn hr hf hw, fun _ _ => by rw [← er]; exact upd_same _ _, yy⟩, upd_same _ _⟩
  · exact ⟨⟨hc.last hp h.r0n hr hf hw, fun _ _ => by rw [← er]; exact upd_same _ _, yy⟩, upd_of hc.pr⟩
theorem Inn.next {P S : Nat → Bool} {r0 r : Nat} (hp : PM l) (h : Inn l P S r0 r) (hr : P r = false) (hf : fl r < l.length) : fl (wo l (fl r)) < l.length ∧ Inn l (upd (upd P r) (fl r)) (upd S r) r0 (gg l (fl r)) := by
  have hn := h.rn
  have hfp : P (fl r) = false := by
    cases q : P (fl r) with
    | false => rfl
    | true =>
      have : P (fl (fl r)) = true := by
        rcases h.st with ⟨ho, rfl⟩ | ⟨os, hc⟩
        · exact (ho.cl.b _ hf q (by rw [fl_fl]; exact hn)).1
        · exact (hc.b _ hf q (by rw [fl_fl]; exact hn)).1
      rw [fl_fl, hr] at this
      cases this
  have nl : fl r ≠ oo l (l.length - 1) := fun e => by
    rcases h.e2 with q | q
    · exact fl_ne r (e.trans q.symm)
    · rw [← e, hfp] at q; cases q
  have hw : fl (wo l (fl r)) < l.length := by
    apply Classical.byContradiction
    intro q
    obtain ⟨q1, q2⟩ := fl_not (hp.w_lt hf) q
    exact nl (by rw [← q1, hp.o_w hf])
  refine ⟨hw, h.r0n, gg_lt hp hw, Or.inr ⟨fl r, ?_⟩, fun hodd => ?_, Or.inr ?_, fun q => ?_⟩
  · rcases h.st with ⟨ho, rfl⟩ | ⟨os, hc⟩
    · exact ho.cl.begin hp hn hr hf hw (fun _ => trivial)
    · exact hc.step hp h.r0n hr hf hw
  · rcases h.e1 hodd with e | e
    · exact .inl e
    · exact .inr (upd_of (upd_of e))
  · rcases h.e2 with q | q
    · rw [← q]; exact upd_of (upd_same _ _)
    · exact upd_of (upd_of q)
  · rw [upd_other nl.symm] at q
    by_cases e : oo l (l.length - 1) = r
    · rw [e]; exact upd_same _ _
    · rw [upd_other e] at q ⊢; exact h.y q
/-- Who goes second, right. -/
structure Good (l : List Nat) (S : Nat → Bool) : Prop where
  g1 : ∀ x < l.length, fl x < l.length → S (fl x) = !S x
  g2 : ∀ x < l.length, ¬ fl x < l.length → S x = true
  g3 : ∀ i < l.length, fl i < l.length → S (oo l (fl i)) = !S (oo l i)
  g4 : 1 ≤ l.length → S (oo l (l.length - 1)) = true
theorem Out.good {P S : Nat → Bool} (hp : PM l) (h : Out l P S) (ha : ∀ x < l.length, P x = true) : Good l S := by
  refine ⟨fun x hx hf => (h.cl.b x hx (ha x hx) hf).2, fun x hx hf => h.cl.b' x hx (ha x hx) hf, fun i hi hf => ?_, fun h1 => h.y (ha _ (hp.o_lt (by omega)))⟩
  have := (h.cl.c (oo l i) (hp.o_lt hi) (ha _ (hp.o_lt hi)) (by rw [hp.w_o hi]; exact hf)).2
  unfold gg at this
  rw [hp.w_o hi] at this
  exact this
theorem Out.init : Out l (fun _ => false) (fun _ => false) :=
  ⟨⟨fun _ _ h => h, (fun _ _ h => by cases h), (fun _ _ h => by cases h), (fun _ _ h => by cases h), (fun _ _ h => by cases h)⟩, (fun _ h => by cases h), (fun h => by cases h)⟩
theorem Out.inn {P S : Nat → Bool} {r0 : Nat} (h : Out l P S) (h0 : r0 < l.length) (he : r0 = oo l (l.length - 1) ∨ P (oo l (l.length - 1)) = true) : Inn l P S r0 r0 :=
  ⟨h0, h0, .inl ⟨h, rfl⟩, fun hodd => he.imp id (fun q => h.z hodd q), he, h.y⟩
end
end Go.Proofs.Ytelfcapjegncfaa
