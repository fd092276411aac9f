/- The walk of a folder's press: its piece folded into its words; the next piece begins with zeros. -/
import Derived.Test.YteomefhjglnghaaDoorFWords
import Derived.Test.YteomefhjglnghaaDoorFPress
import Derived.Deep.RegionHeld3
set_option linter.unusedSimpArgs false
set_option linter.unusedVariables false
set_option maxRecDepth 100000
namespace Go.Proofs.YteomefhjglnghaaDoor.F
open Go.RowKit

/-- A folder: its words, its piece, how many bytes of it are there, how many of the text. -/
structure Fol where
  h : List UInt32
  p : List UInt8
  held : Nat
  n : Nat
def Fol.ok (f : Fol) : Prop := f.h.length = 8 ∧ f.p.length = 64 ∧ f.held ≤ 64 ∧ f.n < 18446744073709551616
def folC (f : Fol) : List Value := f.h.map U ++ (f.p.map Y ++ [.int .i64 (f.held : Int), .int .u64 (f.n : Int)])
theorem folC_length {f : Fol} (h : f.ok) : (folC f).length = 74 := by simp [folC, h.1, h.2.1]
/-- A folder lies in block b. -/
def FAt (w : World) (b : Nat) (f : Fol) : Prop := w.heap[b]? = some (.cells (folC f).toArray 84)
theorem FAt.lt {w : World} {b : Nat} {f : Fol} (h : FAt w b f) : b < w.heap.size := (Array.getElem?_eq_some_iff.1 h).1
theorem FAt.cell {w : World} {b : Nat} {f : Fol} (h : FAt w b f) (i : Nat) : w.cell? ⟨b, i, none⟩ = (folC f)[i]? := by
  unfold FAt at h
  simp [World.cell?, h]
theorem FAt.frozen {w : World} {b : Nat} {f : Fol} (h : FAt w b f) (i : Nat) : w.frozen? ⟨b, i, none⟩ = false := by
  unfold FAt at h
  simp [World.frozen?, h]
theorem FAt.of_below {w w' : World} {b B : Nat} {f : Fol} (h : FAt w b f) (hb : Below B w w') (hB : b < B) : FAt w' b f := by
  unfold FAt; rw [hb.block b hB]; exact h
theorem FAt.alloc {w : World} {b : Nat} {f : Fol} (h : FAt w b f) (o : Obj) : FAt (w.alloc o) b f := by
  unfold FAt; rw [Below.heap_alloc _ _ _ h.lt]; exact h
theorem FAt.words {w : World} {b : Nat} {f : Fol} (h : FAt w b f) (ok : f.ok) : w.rangeAt b 0 (arr f.h).toList := by
  intro j v hv
  have hj : j < 8 := by
    have := (List.getElem?_eq_some_iff.1 hv).1
    simpa [arr, ok.1] using this
  rw [Nat.zero_add, h.cell, folC, List.getElem?_append_left (by simp [ok.1]; omega)]
  simpa [arr] using hv
theorem FAt.piece {w : World} {b : Nat} {f : Fol} (h : FAt w b f) (ok : f.ok) : w.rangeAt b 8 (barr f.p).toList := by
  intro j v hv
  have hj : j < 64 := by
    have := (List.getElem?_eq_some_iff.1 hv).1
    simpa [barr, ok.2.1] using this
  rw [h.cell, folC, List.getElem?_append_right (by simp [ok.1]), List.getElem?_append_left (by simp [ok.1, ok.2.1]; omega)]
  have e : 8 + j - (f.h.map U).length = j := by simp [ok.1]
  rw [e]
  simpa [barr] using hv
theorem FAt.held {w : World} {b : Nat} {f : Fol} (h : FAt w b f) (ok : f.ok) : w.cell? ⟨b, 72, none⟩ = some (.int .i64 (f.held : Int)) := by
  rw [h.cell, folC, List.getElem?_append_right (by simp [ok.1]), List.getElem?_append_right (by simp [ok.1, ok.2.1])]
  simp [ok.1, ok.2.1]
theorem FAt.n {w : World} {b : Nat} {f : Fol} (h : FAt w b f) (ok : f.ok) : w.cell? ⟨b, 73, none⟩ = some (.int .u64 (f.n : Int)) := by
  rw [h.cell, folC, List.getElem?_append_right (by simp [ok.1]), List.getElem?_append_right (by simp [ok.1, ok.2.1])]
  simp [ok.1, ok.2.1]
theorem FAt.there {w : World} {b : Nat} {f : Fol} (h : FAt w b f) (ok : f.ok) (o n : Nat) (hn : o + n ≤ 74) : w.there b o n := by
  intro j hj
  rw [h.cell, h.frozen]
  refine ⟨?_, rfl⟩
  rw [List.getElem?_eq_getElem (by rw [folC_length ok]; omega)]
  rfl
/-- Cells of a block set one by one. -/
theorem block_setCells {w : World} {b : Nat} {t : TypeId} : ∀ (vs : List Value) (o : Nat) (cs : List Value) (w : World), w.heap[b]? = some (.cells cs.toArray t) → o + vs.length ≤ cs.length →
    (w.setCells b o vs).heap[b]? = some (.cells (cs.take o ++ vs ++ cs.drop (o + vs.length)).toArray t)
  | [], o, cs, w, h, _ => by simpa [World.setCells] using h
  | v :: r, o, cs, w, h, hle => by
    simp only [List.length_cons] at hle
    have h1 : (w.setCell ⟨b, o, none⟩ v).heap[b]? = some (.cells (cs.set o v).toArray t) := by
      simp [World.setCell, Array.getElem?_modify, h]
    have := block_setCells (w := w) (b := b) (t := t) r (o + 1) (cs.set o v) _ h1 (by simp; omega)
    simp only [World.setCells]
    rw [this]
    have e : (cs.set o v).take (o + 1) ++ r ++ (cs.set o v).drop (o + 1 + r.length) = cs.take o ++ (v :: r) ++ cs.drop (o + (r.length + 1)) := by
      rw [List.drop_set_of_lt (by omega), List.take_add_one]
      simp [List.take_set_of_le, show o < cs.length by omega, Nat.add_assoc, Nat.add_comm]
      omega
    rw [e]; rfl
theorem drop72 (A B C : List Value) (hA : A.length = 8) (hB : B.length = 64) : (A ++ (B ++ C)).drop (8 + 64) = C := by
  rw [← List.append_assoc, List.drop_left' (by simp [hA, hB])]
theorem set72 (A B : List Value) (x y z : Value) (hA : A.length = 8) (hB : B.length = 64) : (A ++ (B ++ [x, y])).set 72 z = A ++ (B ++ [z, y]) := by
  rw [List.set_append, if_neg (by omega), List.set_append, if_neg (by omega), hA, hB]; rfl
theorem set73 (A B : List Value) (x y z : Value) (hA : A.length = 8) (hB : B.length = 64) : (A ++ (B ++ [x, y])).set 73 z = A ++ (B ++ [x, z]) := by
  rw [List.set_append, if_neg (by omega), List.set_append, if_neg (by omega), hA, hB]; rfl
theorem FAt.setWords {w : World} {b : Nat} {f : Fol} (h : FAt w b f) (ok : f.ok) (h' : List UInt32) (hh : h'.length = 8) : FAt (w.setCells b 0 (arr h').toList) b { f with h := h' } := by
  have := block_setCells (w := w) (arr h').toList 0 (folC f) w h (by simp [arr, hh, folC_length ok])
  unfold FAt
  rw [this]
  congr 3
  have e : (arr h').toList = h'.map U := by simp [arr]
  rw [e]
  simp [folC, hh, ok.1]
theorem FAt.setPiece {w : World} {b : Nat} {f : Fol} (h : FAt w b f) (ok : f.ok) (p' : List UInt8) (hp : p'.length = 64) : FAt (w.setCells b 8 (barr p').toList) b { f with p := p' } := by
  have := block_setCells (w := w) (barr p').toList 8 (folC f) w h (by simp [barr, hp, folC_length ok])
  unfold FAt
  rw [this]
  congr 3
  have e : (barr p').toList = p'.map Y := by simp [barr]
  have l1 : (f.h.map U).length = 8 := by simp [ok.1]
  have l2 : (f.p.map Y).length = 64 := by simp [ok.2.1]
  rw [e]
  simp only [folC, List.length_map, hp]
  rw [List.take_left' l1, drop72 _ _ _ l1 l2, List.append_assoc]
theorem FAt.setHeld {w : World} {b : Nat} {f : Fol} (h : FAt w b f) (ok : f.ok) (k : Nat) : FAt (w.setCell ⟨b, 72, none⟩ (.int .i64 (k : Int))) b { f with held := k } := by
  have l1 : (f.h.map U).length = 8 := by simp [ok.1]
  have l2 : (f.p.map Y).length = 64 := by simp [ok.2.1]
  unfold FAt at *
  simp only [World.setCell, Array.getElem?_modify, if_true, h, Option.map_some]
  congr 2
  simp only [folC, List.setIfInBounds_toArray, Option.isSome_none, Bool.false_eq_true, if_false]
  rw [set72 _ _ _ _ _ l1 l2]
theorem FAt.setN {w : World} {b : Nat} {f : Fol} (h : FAt w b f) (ok : f.ok) (k : Nat) : FAt (w.setCell ⟨b, 73, none⟩ (.int .u64 (k : Int))) b { f with n := k } := by
  have l1 : (f.h.map U).length = 8 := by simp [ok.1]
  have l2 : (f.p.map Y).length = 64 := by simp [ok.2.1]
  unfold FAt at *
  simp only [World.setCell, Array.getElem?_modify, if_true, h, Option.map_some]
  congr 2
  simp only [folC, List.setIfInBounds_toArray, Option.isSome_none, Bool.false_eq_true, if_false]
  rw [set73 _ _ _ _ _ l1 l2]

/-- The folder behind a press. -/
def pressF (f : Fol) (last : Bool) : Fol := { h := pressL f.h (wordsL f.p) f.n last, p := List.replicate 64 0, held := 0, n := f.n }
theorem pressF_ok {f : Fol} (ok : f.ok) (last : Bool) : (pressF f last).ok := ⟨by rw [pressF, pressL_length]; exact ok.1, by simp [pressF], by simp [pressF], ok.2.2.2⟩
theorem size57 : (Tryd.prog.info? 82).map (·.size) = some 64 := by kernel_rfl
theorem barr_one (l : List UInt8) : (barr l).all (·.oneCell') = true := all_oneCell_toArray (fun v hv => by obtain ⟨x, _, rfl⟩ := List.mem_map.1 hv; rfl)
theorem z64 : barr (List.replicate 64 0) = Array.replicate 64 (.int .u8 0) := by kernel_rfl
end Go.Proofs.YteomefhjglnghaaDoor.F
