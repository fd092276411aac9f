/- Blocks, on the document's side; same. -/
import Derived.Test.YteomefhjglnghaaDoorDg
set_option linter.unusedSimpArgs false
set_option linter.unusedVariables false
set_option maxRecDepth 100000
namespace Go.Proofs.YteomefhjglnghaaDoor
open Go.RowKit Go.Deep Go.PlainAid

theorem down_log (d lo : Nat) (hd : 1 ≤ d) : ∃ j, j ≤ 20 ∧ down 20 d lo = 2 ^ j := by
  obtain ⟨j, h1, h2, _⟩ := down_spec d lo hd 20
  exact ⟨j, h1, h2⟩
/-- A span of a cover, with the power of two that it is long. -/
theorem cov_span : ∀ (k lo hi : Nat) (p : Nat × Nat), p ∈ cov k lo hi → ∃ j, j ≤ 20 ∧ p.2 = p.1 + 2 ^ j ∧ lo ≤ p.1 ∧ p.2 ≤ hi
  | 0, lo, hi, p, h => by simp [cov] at h
  | k + 1, lo, hi, p, h => by
    rw [cov] at h
    split at h
    · rename_i hlt
      have hd := down_pos (hi - lo) lo (by omega) 20
      obtain ⟨j, h1, h2⟩ := down_log (hi - lo) lo (by omega)
      rcases List.mem_cons.1 h with rfl | h
      · exact ⟨j, h1, by rw [← h2], Nat.le_refl _, by show lo + _ ≤ hi; omega⟩
      · obtain ⟨j', q1, q2, q3, q4⟩ := cov_span k _ hi p h
        exact ⟨j', q1, q2, by omega, q4⟩
    · simp at h
/-- The logarithm of a power of two. -/
def lg : Nat → Nat → Nat
  | 0, _ => 0
  | f + 1, n => if n ≤ 1 then 0 else 1 + lg f (n / 2)
theorem lg_pow : ∀ (j f : Nat), j ≤ f → lg f (2 ^ j) = j
  | 0, f, _ => by cases f <;> simp [lg]
  | j + 1, 0, h => by omega
  | j + 1, f + 1, h => by
    rw [lg, if_neg (by have : 1 ≤ 2 ^ j := Nat.one_le_two_pow; rw [Nat.pow_succ]; omega), Nat.pow_succ, Nat.mul_div_cancel _ (by omega), lg_pow j f (by omega)]
    omega
/-- The digest of a span. -/
def blk (tg : ByteArray → List ByteArray → ByteArray) (E : List ByteArray) (p : Nat × Nat) : ByteArray := dgst tg (lg 20 (p.2 - p.1)) (seg E p.1 (p.2 - p.1))
section
variable {tg : ByteArray → List ByteArray → ByteArray}
theorem one_news (w : World) (s : ByteArray) : ∀ j u, [Value.string s][j]? = some u → (w.alloc (.cells #[.string s] 9)).cell? ((⟨w.heap.size, 0, none⟩ : Addr).add j) = some u := fun j u hu => by
  match j, hu with
  | 0, hu => simp at hu; subst hu; simp [Addr.add]
theorem own_sl {w : World} {base : Nat} {v : Value} {n : Nat} {qs : List ByteArray} (hn : qs.length = n) (h : w.ownsRow base 9 1 v n (qs.map Value.string)) : ∃ a' c', v = .slice a' n c' ∧ SL w a' qs := by
  obtain ⟨hl, ⟨rfl, h0⟩ | ⟨g, cap, cur, rfl, h1, hg, h2, h3, h4, h5⟩⟩ := h
  · refine ⟨none, 0, by rw [h0], fun i hi => ?_⟩
    omega
  · refine ⟨_, _, rfl, fun i hi => ⟨g, 0, rfl, ?_⟩⟩
    have e : (cur.toList.take (n * 1))[i]? = (qs.map Value.string)[i]? := by rw [h5]
    rw [List.getElem?_take_of_lt (by omega), List.getElem?_map, List.getElem?_eq_getElem hi, Array.getElem?_toList] at e
    rw [Nat.zero_add]
    unfold World.cell?
    simp [hg, e]
theorem row_keep {w w' : World} {base : Nat} {e : TypeId} {s n : Nat} {v : Value} {xs : List Value} (h : w.ownsRow base e s v n xs) (hb : Below w.heap.size w w') : w'.ownsRow base e s v n xs := by
  obtain ⟨h1, h2 | ⟨g, cap, cur, q1, q2, q3, q4⟩⟩ := h
  · exact ⟨h1, Or.inl h2⟩
  · exact ⟨h1, Or.inr ⟨g, cap, cur, q1, q2, (hb.block g (Array.getElem?_eq_some_iff.1 q3).1).trans q3, q4⟩⟩
theorem info9 : (Tryd.prog.info? 9).map (fun i => (i.zero, i.size, i.bytes)) = some (some (.string ⟨#[]⟩), 1, 16) := by kernel_rfl
theorem map_take {f : Nat × Nat → ByteArray} {L : List (Nat × Nat)} {i : Nat} (h : i < L.length) : (L.take (i + 1)).map f = (L.take i).map f ++ [f L[i]] := by
  rw [List.take_succ_eq_append_getElem h, List.map_append]
  rfl
theorem cover_mem {lo hi : Nat} {i : Nat} (h : i < (cover lo hi).length) : ∃ j, j ≤ 20 ∧ (cover lo hi)[i].2 = (cover lo hi)[i].1 + 2 ^ j ∧ lo ≤ (cover lo hi)[i].1 ∧ (cover lo hi)[i].2 ≤ hi := cov_span _ lo hi _ (List.getElem_mem h)
end
end Go.Proofs.YteomefhjglnghaaDoor
