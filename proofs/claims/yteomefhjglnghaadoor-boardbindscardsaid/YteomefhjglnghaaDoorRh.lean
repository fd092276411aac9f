/- Head, on the document's side. -/
import Derived.Test.YteomefhjglnghaaDoorHd
set_option linter.unusedSimpArgs false
set_option linter.unusedVariables false
set_option maxRecDepth 100000
namespace Go.Proofs.YteomefhjglnghaaDoor
open Go.RowKit Go.Deep Go.PlainAid

def all32 (l : List ByteArray) : Bool := l.all (fun p => decide (p.size = 32))
theorem SL.cells {w : World} {b o : Nat} {l : List ByteArray} (h : SL w (some ⟨b, o, none⟩) l) : ∀ j u, (l.map Value.string)[j]? = some u → w.cell? ((⟨b, o, none⟩ : Addr).add j) = some u := fun j u hj => by
  have hlt : j < l.length := by have := (List.getElem?_eq_some_iff.1 hj).1; simpa using this
  obtain ⟨b', o', e, hc⟩ := h j hlt
  obtain ⟨rfl, rfl⟩ : b' = b ∧ o' = o := by simpa [eq_comm] using e
  rw [List.getElem?_map, List.getElem?_eq_getElem hlt] at hj
  simp at hj
  subst hj
  unfold Addr.add
  by_cases h0 : j = 0
  · subst h0; simpa using hc
  · simpa [h0] using hc
theorem SL.cellsA {w : World} {ad : Addr} {l : List ByteArray} (h : SL w (some ad) l) : ∀ j u, (l.map Value.string)[j]? = some u → w.cell? (ad.add j) = some u := fun j u hj => by
  have hlt : j < l.length := by have := (List.getElem?_eq_some_iff.1 hj).1; simpa using this
  obtain ⟨b, o, e, _⟩ := h j hlt
  cases e
  exact SL.cells h j u hj
theorem one_own9 {w : World} {b base : Nat} {s : ByteArray} (h : IHolds w b 9 [.string s]) (hb : base ≤ b) : w.ownsRow base 9 1 (.slice (some ⟨b, 0, none⟩) 1 1) 1 ([s].map Value.string) :=
  ⟨rfl, Or.inr ⟨b, 1, #[.string s], rfl, hb, h, Nat.le_refl _, by unfold maxLen; omega, rfl, rfl⟩⟩
theorem Sz.head {z : Nat} {l : List ByteArray} (hl : l.length ≤ 1048576) (h : all32 l = true) : Sz (fourT z :: l) := by
  have q : ∀ p ∈ fourT z :: l, p.size ≤ 1048576 := fun p hp => by
    rcases List.mem_cons.1 hp with rfl | hp
    · rw [fourT_size]; omega
    · have := List.all_eq_true.1 h p hp
      simp at this
      omega
  exact ⟨by simp; omega, fun p hp => by have := q p hp; omega, fun _ => q⟩
end Go.Proofs.YteomefhjglnghaaDoor
