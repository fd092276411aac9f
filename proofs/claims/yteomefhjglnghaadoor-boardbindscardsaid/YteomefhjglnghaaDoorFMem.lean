/- Memory: an array of words in a block; what a call that writes one block alone leaves of the others. -/
import Derived.Test.YteomefhjglnghaaDoorFLeaf
import Derived.Deep.Draws
import Derived.Deep.MidRow
set_option linter.unusedSimpArgs false
set_option linter.unusedVariables false
set_option maxRecDepth 100000
namespace Go.Proofs.YteomefhjglnghaaDoor.F
open Go.RowKit

/-- A byte as the program holds it. -/
abbrev B8 (x : Nat) : Value := .int .u8 (x : Int)
/-- Words as the cells of an array. -/
def arr (l : List UInt32) : Array Value := (l.map U).toArray
theorem arr_size (l : List UInt32) : (arr l).size = l.length := by simp [arr]
theorem arr_get (l : List UInt32) (i : Nat) : (arr l)[i]? = (l[i]?).map U := by simp [arr]
theorem arr_set (l : List UInt32) (i : Nat) (x : UInt32) : (arr l).setIfInBounds i (U x) = arr (l.set i x) := by
  simp [arr, List.map_set]
theorem arr_inj {l l' : List UInt32} (h : arr l = arr l') : l = l' := by
  unfold arr at h
  have h' : l.map U = l'.map U := by simpa using h
  have inj : ∀ a b : UInt32, U a = U b → a = b := fun a b e => by
    have e' : (a.toNat : Int) = (b.toNat : Int) := by injection e
    exact UInt32.toNat_inj.1 (by omega)
  clear h
  induction l generalizing l' with
  | nil => cases l' with
    | nil => rfl
    | cons b l' => simp at h'
  | cons a l ih => cases l' with
    | nil => simp at h'
    | cons b l' =>
      simp only [List.map_cons, List.cons.injEq] at h'
      rw [inj a b h'.1, ih h'.2]

/-- Block b is an array of these words. -/
def Holds (w : World) (b : Nat) (t : TypeId) (l : List UInt32) : Prop := w.heap[b]? = some (.cells (arr l) t)

theorem Holds.lt {w : World} {b : Nat} {t : TypeId} {l : List UInt32} (h : Holds w b t l) : b < w.heap.size := by
  have := Array.getElem?_eq_some_iff.1 h
  exact this.1
theorem Holds.cell {w : World} {b : Nat} {t : TypeId} {l : List UInt32} (h : Holds w b t l) (i : Nat) (hi : i < l.length) : w.cell? ⟨b, i, none⟩ = some (U (l.getD i 0)) := by
  unfold Holds at h
  simp [World.cell?, h, arr_get, hi]
theorem Holds.frozen {w : World} {b : Nat} {t : TypeId} {l : List UInt32} (h : Holds w b t l) (i : Nat) : w.frozen? ⟨b, i, none⟩ = false := by
  unfold Holds at h
  simp [World.frozen?, h]
theorem Holds.set {w : World} {b : Nat} {t : TypeId} {l : List UInt32} (h : Holds w b t l) (i : Nat) (x : UInt32) : Holds (w.setCell ⟨b, i, none⟩ (U x)) b t (l.set i x) := by
  unfold Holds at *
  simp [World.setCell, Array.getElem?_modify, h, arr_set]
theorem Holds.drewN {w : World} {b : Nat} {t : TypeId} {l : List UInt32} (h : Holds w b t l) (n : Nat) : Holds (w.drewN n) b t l := h
theorem Holds.alloc {w : World} {b : Nat} {t : TypeId} {l : List UInt32} (h : Holds w b t l) (o : Obj) : Holds (w.alloc o) b t l := by
  unfold Holds; rw [Below.heap_alloc _ _ _ h.lt]; exact h
theorem Holds.new (w : World) (t : TypeId) (l : List UInt32) : Holds (w.alloc (.cells (arr l) t)) w.heap.size t l := by
  show (w.heap.push _)[w.heap.size]? = _
  simp
theorem Holds.range {w : World} {b : Nat} {t : TypeId} {l : List UInt32} (h : Holds w b t l) : w.rangeAt b 0 (l.map U) := by
  intro j v hv
  have hj : j < l.length := by
    have := (List.getElem?_eq_some_iff.1 hv).1
    simpa using this
  rw [Nat.zero_add, h.cell j hj]
  simp [hj] at hv
  simp [hj, hv]

/-- Nothing but block b has turned, of what was there. -/
structure But (b : Nat) (w w' : World) : Prop where
  os : w'.os = w.os
  tape : w'.tape = w.tape
  output : w'.output = w.output
  size : w.heap.size ≤ w'.heap.size
  block : ∀ k, k < w.heap.size → k ≠ b → w'.heap[k]? = w.heap[k]?

theorem But.refl (b : Nat) (w : World) : But b w w := ⟨rfl, rfl, rfl, Nat.le_refl _, fun _ _ _ => rfl⟩
theorem But.trans {b : Nat} {u v w : World} (h : But b u v) (k : But b v w) : But b u w :=
  ⟨k.os.trans h.os, k.tape.trans h.tape, k.output.trans h.output, Nat.le_trans h.size k.size, fun i hi hb => (k.block i (Nat.lt_of_lt_of_le hi h.size) hb).trans (h.block i hi hb)⟩
theorem But.drew {b : Nat} {u w : World} (h : But b u w) : But b u w.drew := ⟨h.os, h.tape, h.output, h.size, h.block⟩
theorem But.drewN {b : Nat} {u w : World} (h : But b u w) (n : Nat) : But b u (w.drewN n) := ⟨h.os, h.tape, h.output, h.size, h.block⟩
theorem But.alloc {b : Nat} {u w : World} (h : But b u w) (o : Obj) : But b u (w.alloc o) :=
  h.trans ⟨rfl, rfl, rfl, by simp, fun k hk _ => Below.heap_alloc _ _ _ hk⟩
theorem But.setCell {b : Nat} {u w : World} (h : But b u w) (i : Nat) (x : Value) : But b u (w.setCell ⟨b, i, none⟩ x) :=
  h.trans ⟨rfl, rfl, rfl, by simp [World.setCell], fun k _ hb => Below.heap_setCell _ _ _ _ hb⟩
/-- A store into a block that was not there. -/
theorem But.setNew {b : Nat} {u w : World} (h : But b u w) {p : Addr} (hp : u.heap.size ≤ p.block) (x : Value) : But b u (w.setCell p x) :=
  ⟨h.os, h.tape, h.output, by simp only [World.size_setCell]; exact h.size, fun k hk hb => (Below.heap_setCell _ _ _ _ (by omega)).trans (h.block k hk hb)⟩
theorem But.cell {b : Nat} {u w : World} (h : But b u w) {k : Nat} (hk : k < u.heap.size) (hb : k ≠ b) (i : Nat) : w.cell? ⟨k, i, none⟩ = u.cell? ⟨k, i, none⟩ :=
  World.cell?_of_block (w := u) (h.block k hk hb)
theorem But.holds {b : Nat} {u w : World} (h : But b u w) {k : Nat} {t : TypeId} {l : List UInt32} (hk : Holds u k t l) (hb : k ≠ b) : Holds w k t l := by
  unfold Holds; rw [h.block k hk.lt hb]; exact hk
/-- Where block b is new, nothing that was there has turned. -/
theorem But.below {b B : Nat} {u w : World} (h : But b u w) (hB : B ≤ u.heap.size) (hb : B ≤ b) : Below B u w :=
  ⟨h.os, h.tape, h.output, h.size, fun k hk => h.block k (by omega) (by omega)⟩

/-- Four words laid into an array. -/
def put4 (w : World) (b p0 p1 p2 p3 : Nat) (q : Four) : World := (((w.setCell ⟨b, p0, none⟩ (U q.a)).setCell ⟨b, p1, none⟩ (U q.b)).setCell ⟨b, p2, none⟩ (U q.c)).setCell ⟨b, p3, none⟩ (U q.d)
def set4 (l : List UInt32) (p0 p1 p2 p3 : Nat) (q : Four) : List UInt32 := (((l.set p0 q.a).set p1 q.b).set p2 q.c).set p3 q.d
theorem Holds.put4 {w : World} {b : Nat} {t : TypeId} {l : List UInt32} (h : Holds w b t l) (p0 p1 p2 p3 : Nat) (q : Four) : Holds (put4 w b p0 p1 p2 p3 q) b t (set4 l p0 p1 p2 p3 q) :=
  (((h.set p0 q.a).set p1 q.b).set p2 q.c).set p3 q.d
theorem But.put4 {b : Nat} {u w : World} (h : But b u w) (p0 p1 p2 p3 : Nat) (q : Four) : But b u (put4 w b p0 p1 p2 p3 q) :=
  (((h.setCell p0 _).setCell p1 _).setCell p2 _).setCell p3 _

theorem But.of_drew {b : Nat} {u w : World} (h : But b u.drew w) : But b u w := ⟨h.os, h.tape, h.output, h.size, h.block⟩
/-- Many cells of a block that was not there. -/
theorem But.setNews {b g : Nat} {u : World} (hg : u.heap.size ≤ g) : ∀ (vs : List Value) (o : Nat) (w : World), But b u w → But b u (w.setCells g o vs)
  | [], _, _, h => h
  | v :: r, o, _, h => But.setNews hg r (o + 1) _ (h.setNew (p := ⟨g, o, none⟩) hg v)
theorem But.setOwn {b : Nat} {u : World} : ∀ (vs : List Value) (o : Nat) (w : World), But b u w → But b u (w.setCells b o vs)
  | [], _, _, h => h
  | v :: r, o, _, h => But.setOwn r (o + 1) _ (h.setCell o v)
theorem Below.setNews {B g : Nat} {u : World} (hg : B ≤ g) : ∀ (vs : List Value) (o : Nat) (w : World), Below B u w → Below B u (w.setCells g o vs)
  | [], _, _, h => h
  | v :: r, o, _, h => Below.setNews hg r (o + 1) _ (h.setCell (p := ⟨g, o, none⟩) hg v)
theorem size_setCells (g : Nat) : ∀ (vs : List Value) (o : Nat) (w : World), (w.setCells g o vs).heap.size = w.heap.size
  | [], _, _ => rfl
  | v :: r, o, w => by rw [World.setCells, size_setCells g r (o + 1), World.size_setCell]
theorem Holds.setCells_part {b : Nat} {t : TypeId} : ∀ (vs : List UInt32) (o : Nat) (l : List UInt32) (w : World), Holds w b t l → o + vs.length ≤ l.length →
    Holds (w.setCells b o (vs.map U)) b t (l.take o ++ vs ++ l.drop (o + vs.length))
  | [], o, l, w, h, _ => by simpa [World.setCells] using h
  | v :: r, o, l, w, h, hle => by
    simp only [List.length_cons] at hle
    have := Holds.setCells_part r (o + 1) (l.set o v) _ (h.set o v) (by simp; omega)
    simp only [List.map_cons, World.setCells]
    have e : (l.set o v).take (o + 1) ++ r ++ (l.set o v).drop (o + 1 + r.length) = l.take o ++ (v :: r) ++ l.drop (o + (r.length + 1)) := by
      rw [List.drop_set_of_lt (by omega), List.take_add_one]
      simp [List.take_set_of_le, show o < l.length by omega, Nat.add_assoc, Nat.add_comm]
      omega
    rw [e] at this
    exact this
/-- A whole array stored over another. -/
theorem Holds.setCells {w : World} {b : Nat} {t : TypeId} {l0 : List UInt32} (h : Holds w b t l0) (l : List UInt32) (hl : l0.length = l.length) : Holds (w.setCells b 0 (l.map U)) b t l := by
  have := Holds.setCells_part l 0 l0 w h (by omega)
  simpa [← hl] using this
end Go.Proofs.YteomefhjglnghaaDoor.F
