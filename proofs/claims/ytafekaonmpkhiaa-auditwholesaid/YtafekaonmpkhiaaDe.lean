/- used. -/
import Derived.Test.YtafekaonmpkhiaaDd
set_option linter.unusedSimpArgs false
set_option linter.unusedVariables false
set_option maxRecDepth 100000
namespace Go.Proofs.Ytafekaonmpkhiaa
open Go.RowKit Go.Shelf Go.Deep Go.PlainAid Go.Maps Go.WideMaps

/-- A list of texts, as it lies. -/
def TL (V : World) (v : Value) (xs : List ByteArray) : Prop := ∃ a c, v = .slice a xs.length c ∧ ∀ k, k < xs.length → ∃ b o, a = some ⟨b, o, none⟩ ∧ V.cell? ⟨b, o + k, none⟩ = some (.string (nth xs k))
theorem TL.of_below {V V' : World} {v : Value} {xs : List ByteArray} (h : TL V v xs) (hb : Below V.heap.size V V') : TL V' v xs := by
  obtain ⟨a, c, e, q⟩ := h
  exact ⟨a, c, e, fun k hk => by obtain ⟨b, o, e1, e2⟩ := q k hk; exact ⟨b, o, e1, cell_keep e2 hb⟩⟩
def txs (xs : List ByteArray) : List Value := xs.map fun x => Value.string x
theorem txs_len (xs : List ByteArray) : (txs xs).length = xs.length := by simp [txs]
theorem txs_snoc (xs : List ByteArray) (x : ByteArray) : txs (xs ++ [x]) = txs xs ++ [.string x] := by simp [txs]
theorem txs_get {xs : List ByteArray} {k : Nat} (h : k < xs.length) : (txs xs)[k]? = some (.string (nth xs k)) := by
  simp [txs, nth_at h, h]
theorem tl_of_own {V : World} {v : Value} {xs : List ByteArray} {base : Nat} (h : V.ownsRow base 9 1 v xs.length (txs xs)) : TL V v xs := by
  obtain ⟨hlen, ⟨rfl, h0⟩ | ⟨g, cap, cur, rfl, hbg, hg, hc, hm, hs, ht⟩⟩ := h
  · have e : xs = [] := List.eq_nil_of_length_eq_zero h0
    subst e
    exact ⟨none, 0, rfl, fun i hi => by simp at hi⟩
  · refine ⟨some ⟨g, 0, none⟩, cap, rfl, fun k hk => ⟨g, 0, rfl, ?_⟩⟩
    have q := txs_get hk
    rw [← ht, List.getElem?_take, if_pos (by omega)] at q
    rw [← q]
    simp [World.cell?, hg]
set_option maxHeartbeats 4000000 in
theorem used12 {xs : List ByteArray} {V : World} {v : Value} {s : ByteArray} (h9 : xs.length < 140737488355328) (g : TL V v xs) :
    Calls Try.prog 12 #[v, .string s] V fun e w' => e = .returned (.bool (hasN xs s)) ∧ Below V.heap.size V w' := by
  obtain ⟨a, c, rfl, hq⟩ := g
  have G1 : Hid (TL V (.slice a xs.length c) xs) := ⟨a, c, rfl, hq⟩
  clear hq
  go_enter Try.func12, Try.ntmps12
  go_wp2_with fail
  go_loopw [6, 9] (fun v6 v9 wr => ∃ k : Nat, k ≤ xs.length ∧ v9 = .int .i64 (k : Int) ∧ Below V.heap.size V wr ∧ ∀ j, j < k → nth xs j ≠ s) (fun v6 v9 _ => xs.length - intC v9)
  case atStart => exact ⟨0, by omega, by simp, Below.refl _ _, fun j hj => by omega⟩
  case round =>
    obtain ⟨k, hk, rfl, hB, hN⟩ := hrel
    have HB : Hid (Below V.heap.size V wr) := hB
    have HN : Hid (∀ j, j < k → nth xs j ≠ s) := hN
    by_cases hlt : k < xs.length
    · have il : (k : Int) < (xs.length : Int) := by omega
      obtain ⟨a, c, e, q⟩ := (G1.out.of_below hB)
      cases e
      obtain ⟨b1, o1, rfl, p0⟩ := q k hlt
      have MM : Hid (nth xs k ∈ xs) := mem_nth hlt
      have NX : Hid (nth xs k ≠ s → ∀ j, j < k + 1 → nth xs j ≠ s) := fun hx j hj => by
        by_cases e : j = k
        · rw [e]; exact hx
        · exact HN.out j (by omega)
      clear q hB hN HN
      by_cases hx : nth xs k = s
      · rw [hx] at MM p0
        have DM : Hid (hasN xs s = true) := hasN_iff.2 MM.out
        clear hx MM NX
        go_wp2_with fail
        go_ret
        exact ⟨by rw [DM.out]; rfl, HB.out⟩
      · have NY : Hid (∀ j, j < k + 1 → nth xs j ≠ s) := NX.out hx
        clear NX MM
        have hx2 := str_ne hx
        clear hx
        go_wp2_with fail
        go_roundw
        case rel => exact ⟨k + 1, by omega, by simp, HB.out, NY.out⟩
        case measure => simp [intC]; omega
    · obtain rfl : k = xs.length := by omega
      have MM : s ∉ xs := fun hm => by
        obtain ⟨j, hj, e⟩ := List.mem_iff_getElem.1 hm
        exact HN.out j hj (by rw [nth_at hj]; exact e)
      have DM : Hid (hasN xs s = false) := hasN_no MM
      clear MM hN HN hB
      go_wp2_with fail
      go_ret
      exact ⟨by rw [DM.out]; rfl, HB.out⟩
end Go.Proofs.Ytafekaonmpkhiaa
