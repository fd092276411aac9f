/- Lists in memory. -/
import Derived.Test.YtelfcapjegncfaaProg
import Derived.Test.YtelfcapjegncfaaRows
import Derived.PlainAid
import Derived.Below
import Derived.Lib.ItoaNum
import Derived.Laws.AppendOwn
import Derived.Deep.MidRow
import Derived.Laws.IdiomCopy
import Derived.Deep.RegionWith
import Derived.Deep.RegionHeld
import Derived.WalkKit
import Derived.WalkSpells
import Derived.WalkLawsBesides
import Derived.Handy
import Derived.Deep.Draws
import Derived.Deep.QuietTactic
import Derived.BigQuiet
import Derived.Deep.LoopGhost
import Derived.Deep.OwnRows
import Derived.Maps.AppendAt
import Derived.Deep.AppendLies
import Derived.Deep.RegionHeld3
import Derived.Laws.OwnMore
set_option linter.unusedSimpArgs false
set_option linter.unusedVariables false
set_option maxRecDepth 100000
namespace Go.Proofs.Ytelfcapjegncfaa
open Go.RowKit Go.Deep Go.PlainAid

theorem cell_lt {w : World} {b o : Nat} {v : Value} (h : w.cell? ⟨b, o, none⟩ = some v) : b < w.heap.size := World.block_lt_of_cell? _ _ h
theorem cell_keep {w w' : World} {b o : Nat} {v : Value} (h : w.cell? ⟨b, o, none⟩ = some v) (hb : Below w.heap.size w w') : w'.cell? ⟨b, o, none⟩ = some v := (World.cell?_of_block (a := ⟨b, o, none⟩) (hb.block b (cell_lt h))).trans h
/-- Block b holds these cells. -/
def IHolds (w : World) (b : Nat) (t : TypeId) (l : List Value) : Prop := w.heap[b]? = some (.cells l.toArray t)
theorem IHolds.lt {w : World} {b : Nat} {t : TypeId} {l : List Value} (h : IHolds w b t l) : b < w.heap.size := (Array.getElem?_eq_some_iff.1 h).1
theorem IHolds.cell {w : World} {b : Nat} {t : TypeId} {l : List Value} (h : IHolds w b t l) (i : Nat) (hi : i < l.length) : w.cell? ⟨b, i, none⟩ = some l[i] := by
  unfold IHolds at h
  simp [World.cell?, h, hi]
theorem IHolds.frozen {w : World} {b : Nat} {t : TypeId} {l : List Value} (h : IHolds w b t l) (i : Nat) : w.frozen? ⟨b, i, none⟩ = false := by
  unfold IHolds at h
  simp [World.frozen?, h]
theorem IHolds.new (w : World) (t : TypeId) (l : List Value) : IHolds (w.alloc (.cells l.toArray t)) w.heap.size t l := by
  show (w.heap.push _)[w.heap.size]? = _
  simp
theorem IHolds.of_below {w w' : World} {b : Nat} {t : TypeId} {l : List Value} (h : IHolds w b t l) (hb : Below w.heap.size w w') : IHolds w' b t l := by
  unfold IHolds; rw [hb.block _ h.lt]; exact h
theorem IHolds.set {w : World} {b : Nat} {t : TypeId} {l : List Value} (h : IHolds w b t l) (i : Nat) (x : Value) : IHolds (w.setCell ⟨b, i, none⟩ x) b t (l.set i x) := by
  unfold IHolds at *
  simp [World.setCell, Array.getElem?_modify, h, List.map_set]
theorem IHolds.far {w w' : World} {row : Option Nat} {b : Nat} {t : TypeId} {l : List Value} (h : IHolds w b t l) (hg : w.grownBy w' row) (hne : some b ≠ row) : IHolds w' b t l := by
  unfold IHolds; rw [hg.block _ h.lt hne]; exact h
theorem IHolds.set_far {w : World} {b c o : Nat} {t : TypeId} {l : List Value} (h : IHolds w b t l) (hne : b ≠ c) (x : Value) : IHolds (w.setCell ⟨c, o, none⟩ x) b t l := by
  unfold IHolds at *
  rw [← h]
  exact Below.heap_setCell _ _ _ _ hne
/-- A row of another type is another block. -/
theorem IHolds.not_row {W : World} {B : Nat} {t e : TypeId} {l : List Value} (h : IHolds W B t l) (hte : t ≠ e) {base size k : Nat} {v : Value} {xs : List Value} (hr : W.ownsRow base e size v k xs) : some B ≠ v.ownBlock := by
  intro q
  obtain ⟨_, ⟨rfl, _⟩ | ⟨g, cap, cur, rfl, _, hg, _⟩⟩ := hr
  · cases q
  · cases q
    unfold IHolds at h
    rw [h] at hg
    cases hg
    exact hte rfl
/-- Values that lie one behind the other, to be read. -/
def VL (w : World) (a : Option Addr) (vs : List Value) : Prop := ∀ j u, vs[j]? = some u → ∃ b o, a = some ⟨b, o, none⟩ ∧ w.cell? ⟨b, o + j, none⟩ = some u
theorem VL.of_below {w w' : World} {a : Option Addr} {vs : List Value} (h : VL w a vs) (hb : Below w.heap.size w w') : VL w' a vs := fun j u hj => by
  obtain ⟨b, o, rfl, hc⟩ := h j u hj
  exact ⟨b, o, rfl, cell_keep hc hb⟩
theorem VL.none_nil {w : World} {vs : List Value} (h : VL w none vs) : vs = [] := by
  cases vs with
  | nil => rfl
  | cons p l => obtain ⟨b, o, e, _⟩ := h 0 _ rfl; cases e
theorem VL.nil (w : World) (a : Option Addr) : VL w a [] := fun j u hj => by simp at hj
theorem VL.cellsA {w : World} {ad : Addr} {vs : List Value} (h : VL w (some ad) vs) : ∀ j u, vs[j]? = some u → w.cell? (ad.add j) = some u := fun j u hj => by
  obtain ⟨b, o, e, hc⟩ := h j u hj
  cases e
  unfold Addr.add
  by_cases h0 : j = 0
  · subst h0; simpa using hc
  · simpa [h0] using hc
theorem VL.take {w : World} {a : Option Addr} {vs : List Value} (h : VL w a vs) (k : Nat) : VL w a (vs.take k) := fun j u hj => by
  rw [List.getElem?_take] at hj
  split at hj
  · exact h j u hj
  · cases hj
theorem VL.of_holds {w : World} {b : Nat} {t : TypeId} {l : List Value} (h : IHolds w b t l) : VL w (some ⟨b, 0, none⟩) l := fun j u hj => by
  obtain ⟨hlt, rfl⟩ := List.getElem?_eq_some_iff.1 hj
  exact ⟨b, 0, rfl, by rw [Nat.zero_add]; exact h.cell j hlt⟩
theorem own_vl {w : World} {base n e k : Nat} {v : Value} {vs : List Value} (h : w.ownsRow base e k v n vs) : ∃ a c, v = .slice a n c ∧ VL w a vs ∧ (a = none → c = 0) := by
  obtain ⟨hl, ⟨rfl, h0⟩ | ⟨g, cap, cur, rfl, h1, hg, h2, h3, h4, h5⟩⟩ := h
  · refine ⟨none, 0, by rw [h0], ?_, fun _ => rfl⟩
    have e : vs = [] := List.length_eq_zero_iff.1 (by rw [hl, h0]; simp)
    subst e
    exact VL.nil _ _
  · refine ⟨_, _, rfl, fun j u hj => ⟨g, 0, rfl, ?_⟩, fun q => by cases q⟩
    have hlt : j < n * k := by
      have := (List.getElem?_eq_some_iff.1 hj).1
      omega
    rw [← h5, List.getElem?_take_of_lt hlt, Array.getElem?_toList] at hj
    rw [Nat.zero_add]
    unfold World.cell?
    simp [hg, hj]
/-- Numbers as the cells hold them. -/
def ivs (l : List Nat) : List Value := l.map fun (n : Nat) => Value.int .i64 (n : Int)
theorem ivs_len (l : List Nat) : (ivs l).length = l.length := by simp [ivs]
theorem ivs_append (l r : List Nat) : ivs (l ++ r) = ivs l ++ ivs r := by simp [ivs]
theorem VL.int {w : World} {a : Option Addr} {l : List Nat} (h : VL w a (ivs l)) (i : Nat) (hi : i < l.length) : ∃ b o, a = some ⟨b, o, none⟩ ∧ w.cell? ⟨b, o + i, none⟩ = some (.int .i64 (l[i] : Int)) := h i _ (by simp [ivs, hi])
/-- Gates as the cells hold them. -/
def gvs : List (Nat × Nat) → List Value
  | [] => []
  | p :: l => .int .i64 (p.1 : Int) :: .int .i64 (p.2 : Int) :: gvs l
theorem gvs_len : ∀ l, (gvs l).length = l.length * 2
  | [] => rfl
  | p :: l => by simp [gvs, gvs_len l]; omega
theorem gvs_append : ∀ l r, gvs (l ++ r) = gvs l ++ gvs r
  | [], r => rfl
  | p :: l, r => by simp [gvs, gvs_append l r]
theorem gvs_take : ∀ (l : List (Nat × Nat)) (k : Nat), gvs (l.take k) = (gvs l).take (k * 2)
  | [], k => by simp [gvs]
  | p :: l, 0 => by simp [gvs]
  | p :: l, k + 1 => by
    rw [show (k + 1) * 2 = k * 2 + 1 + 1 by omega]
    simp [gvs, gvs_take l k]
theorem gvs_at : ∀ (l : List (Nat × Nat)) (i : Nat) (h : i < l.length), (gvs l)[2 * i]? = some (.int .i64 (l[i].1 : Int)) ∧ (gvs l)[2 * i + 1]? = some (.int .i64 (l[i].2 : Int))
  | [], i, h => by simp at h
  | p :: l, 0, h => by simp [gvs]
  | p :: l, i + 1, h => by
    have := gvs_at l i (by simpa using h)
    rw [show 2 * (i + 1) = 2 * i + 1 + 1 by omega, gvs]
    simpa using this
theorem VL.gate {w : World} {a : Option Addr} {l : List (Nat × Nat)} (h : VL w a (gvs l)) (i : Nat) (hi : i < l.length) : ∃ b o, a = some ⟨b, o, none⟩ ∧ w.cell? ⟨b, o + i * 2, none⟩ = some (.int .i64 (l[i].1 : Int)) ∧ w.cell? ⟨b, o + i * 2 + 1, none⟩ = some (.int .i64 (l[i].2 : Int)) := by
  obtain ⟨q1, q2⟩ := gvs_at l i hi
  obtain ⟨b, o, rfl, h1⟩ := h _ _ q1
  obtain ⟨b', o', e, h2⟩ := h _ _ q2
  obtain ⟨rfl, rfl⟩ : b' = b ∧ o' = o := by simpa [eq_comm] using e
  refine ⟨_, _, rfl, ?_, ?_⟩
  · rw [Nat.mul_comm i 2]; exact h1
  · rw [Nat.mul_comm i 2, Nat.add_assoc]; exact h2
/-- Truths as the cells hold them. -/
def bvs (l : List Bool) : List Value := l.map Value.bool
theorem bvs_len (l : List Bool) : (bvs l).length = l.length := by simp [bvs]
theorem bvs_append (l r : List Bool) : bvs (l ++ r) = bvs l ++ bvs r := by simp [bvs]
theorem VL.bool {w : World} {a : Option Addr} {l : List Bool} (h : VL w a (bvs l)) (i : Nat) (hi : i < l.length) : ∃ b o, a = some ⟨b, o, none⟩ ∧ w.cell? ⟨b, o + i, none⟩ = some (.bool l[i]) := h i _ (by simp [bvs, hi])
theorem one_new (w : World) (x : Value) (t : TypeId) : ∀ j u, [x][j]? = some u → (w.alloc (.cells #[x] t)).cell? ((⟨w.heap.size, 0, none⟩ : Addr).add j) = some u := cell_one_new w x t
theorem two_new (w : World) (x y : Value) (t : TypeId) : ∀ j u, [x, y][j]? = some u → (w.alloc (.cells #[x, y] t)).cell? ((⟨w.heap.size, 0, none⟩ : Addr).add j) = some u := fun j u hj => by
  have I := IHolds.new w t [x, y]
  match j, hj with
  | 0, hj => simp at hj; subst hj; exact I.cell 0 (by simp)
  | 1, hj => simp at hj; subst hj; exact I.cell 1 (by simp)
theorem own_below {w w' : World} {base e k n : Nat} {v : Value} {vs : List Value} (h : w.ownsRow base e k v n vs) (hb : Below w.heap.size w w') : w'.ownsRow base e k v n vs := by
  obtain ⟨hl, ⟨rfl, h0⟩ | ⟨g, cap, cur, rfl, h1, hg, h2⟩⟩ := h
  · exact ⟨hl, .inl ⟨rfl, h0⟩⟩
  · exact ⟨hl, .inr ⟨g, cap, cur, rfl, h1, (hb.block g (Array.getElem?_eq_some_iff.1 hg).1).trans hg, h2⟩⟩
theorem info_parts {t : TypeId} {z : Option Value} {a b : Nat} (h : (Try.prog.info? t).map (fun i => (i.zero, i.size, i.bytes)) = some (z, a, b)) : ∃ i, Try.prog.info? t = some i ∧ i.zero = z ∧ i.size = a ∧ i.bytes = b := by
  obtain ⟨i0, hi0, hzz⟩ := Option.map_eq_some_iff.1 h
  simp only [Prod.mk.injEq] at hzz
  exact ⟨i0, hi0, hzz.1, hzz.2.1, hzz.2.2⟩
theorem info3 : (Try.prog.info? 3).map (fun i => (i.zero, i.size, i.bytes)) = some (some (.int .i64 0), 1, 8) := by kernel_rfl
theorem info4 : (Try.prog.info? 4).map (fun i => (i.zero, i.size, i.bytes)) = some (some (.bool false), 1, 1) := by kernel_rfl
theorem info28 : (Try.prog.info? 28).map (fun i => (i.zero, i.size, i.bytes)) = some (some (.agg #[.int .i64 0, .int .i64 0]), 2, 16) := by kernel_rfl
end Go.Proofs.Ytelfcapjegncfaa
