/- The walk of a folder's press: its piece folded into its words; the next piece begins with zeros. The walk of a folder's press. A folder and the text that has gone into it. The walk of add: a text goes into a folder. -/
import Derived.Test.YtmpiipcllgjhdaaGreatDoorZ17
import Derived.Deep.RegionHeld3
import Derived.Lib.LazyBuf
set_option linter.unusedSimpArgs false
set_option linter.unusedVariables false
set_option maxRecDepth 100000
namespace Go.Proofs.YtmpiipcllgjhdaaGreatDoor.F
open Go.RowKit

/-- A folder: its words, its piece, how many bytes of it are there, how many of the text. -/
structure Fol where
  h : List UInt32
  p : List UInt8
  held : Nat
  n : Nat
def Fol.ok (f : Fol) : Prop := f.h.length = 8 ∧ f.p.length = 64 ∧ f.held ≤ 64 ∧ f.n < 18446744073709551616
def folC (f : Fol) : List Value := f.h.map U ++ (f.p.map Y ++ [.int .i64 (f.held : Int), .int .u64 (f.n : Int)])
theorem folC_length {f : Fol} (h : f.ok) : (folC f).length = 74 := by simp [folC, h.1, h.2.1]
/-- A folder lies in block b. -/
def FAt (w : World) (b : Nat) (f : Fol) : Prop := w.heap[b]? = some (.cells (folC f).toArray 176)
theorem FAt.lt {w : World} {b : Nat} {f : Fol} (h : FAt w b f) : b < w.heap.size := (Array.getElem?_eq_some_iff.1 h).1
theorem FAt.cell {w : World} {b : Nat} {f : Fol} (h : FAt w b f) (i : Nat) : w.cell? ⟨b, i, none⟩ = (folC f)[i]? := by
  unfold FAt at h
  simp [World.cell?, h]
theorem FAt.frozen {w : World} {b : Nat} {f : Fol} (h : FAt w b f) (i : Nat) : w.frozen? ⟨b, i, none⟩ = false := by
  unfold FAt at h
  simp [World.frozen?, h]
theorem FAt.of_below {w w' : World} {b B : Nat} {f : Fol} (h : FAt w b f) (hb : Below B w w') (hB : b < B) : FAt w' b f := by
  unfold FAt; rw [hb.block b hB]; exact h
theorem FAt.alloc {w : World} {b : Nat} {f : Fol} (h : FAt w b f) (o : Obj) : FAt (w.alloc o) b f := by
  unfold FAt; rw [Below.heap_alloc _ _ _ h.lt]; exact h
theorem FAt.words {w : World} {b : Nat} {f : Fol} (h : FAt w b f) (ok : f.ok) : w.rangeAt b 0 (arr f.h).toList := by
  intro j v hv
  have hj : j < 8 := by
    have := (List.getElem?_eq_some_iff.1 hv).1
    simpa [arr, ok.1] using this
  rw [Nat.zero_add, h.cell, folC, List.getElem?_append_left (by simp [ok.1]; omega)]
  simpa [arr] using hv
theorem FAt.piece {w : World} {b : Nat} {f : Fol} (h : FAt w b f) (ok : f.ok) : w.rangeAt b 8 (barr f.p).toList := by
  intro j v hv
  have hj : j < 64 := by
    have := (List.getElem?_eq_some_iff.1 hv).1
    simpa [barr, ok.2.1] using this
  rw [h.cell, folC, List.getElem?_append_right (by simp [ok.1]), List.getElem?_append_left (by simp [ok.1, ok.2.1]; omega)]
  have e : 8 + j - (f.h.map U).length = j := by simp [ok.1]
  rw [e]
  simpa [barr] using hv
theorem FAt.held {w : World} {b : Nat} {f : Fol} (h : FAt w b f) (ok : f.ok) : w.cell? ⟨b, 72, none⟩ = some (.int .i64 (f.held : Int)) := by
  rw [h.cell, folC, List.getElem?_append_right (by simp [ok.1]), List.getElem?_append_right (by simp [ok.1, ok.2.1])]
  simp [ok.1, ok.2.1]
theorem FAt.n {w : World} {b : Nat} {f : Fol} (h : FAt w b f) (ok : f.ok) : w.cell? ⟨b, 73, none⟩ = some (.int .u64 (f.n : Int)) := by
  rw [h.cell, folC, List.getElem?_append_right (by simp [ok.1]), List.getElem?_append_right (by simp [ok.1, ok.2.1])]
  simp [ok.1, ok.2.1]
theorem FAt.there {w : World} {b : Nat} {f : Fol} (h : FAt w b f) (ok : f.ok) (o n : Nat) (hn : o + n ≤ 74) : w.there b o n := by
  intro j hj
  rw [h.cell, h.frozen]
  refine ⟨?_, rfl⟩
  rw [List.getElem?_eq_getElem (by rw [folC_length ok]; omega)]
  rfl
/-- Cells of a block set one by one. -/
theorem block_setCells {w : World} {b : Nat} {t : TypeId} : ∀ (vs : List Value) (o : Nat) (cs : List Value) (w : World), w.heap[b]? = some (.cells cs.toArray t) → o + vs.length ≤ cs.length →
    (w.setCells b o vs).heap[b]? = some (.cells (cs.take o ++ vs ++ cs.drop (o + vs.length)).toArray t)
  | [], o, cs, w, h, _ => by simpa [World.setCells] using h
  | v :: r, o, cs, w, h, hle => by
    simp only [List.length_cons] at hle
    have h1 : (w.setCell ⟨b, o, none⟩ v).heap[b]? = some (.cells (cs.set o v).toArray t) := by
      simp [World.setCell, Array.getElem?_modify, h]
    have := block_setCells (w := w) (b := b) (t := t) r (o + 1) (cs.set o v) _ h1 (by simp; omega)
    simp only [World.setCells]
    rw [this]
    have e : (cs.set o v).take (o + 1) ++ r ++ (cs.set o v).drop (o + 1 + r.length) = cs.take o ++ (v :: r) ++ cs.drop (o + (r.length + 1)) := by
      rw [List.drop_set_of_lt (by omega), List.take_add_one]
      simp [List.take_set_of_le, show o < cs.length by omega, Nat.add_assoc, Nat.add_comm]
      omega
    rw [e]; rfl
theorem drop72 (A B C : List Value) (hA : A.length = 8) (hB : B.length = 64) : (A ++ (B ++ C)).drop (8 + 64) = C := by
  rw [← List.append_assoc, List.drop_left' (by simp [hA, hB])]
theorem set72 (A B : List Value) (x y z : Value) (hA : A.length = 8) (hB : B.length = 64) : (A ++ (B ++ [x, y])).set 72 z = A ++ (B ++ [z, y]) := by
  rw [List.set_append, if_neg (by omega), List.set_append, if_neg (by omega), hA, hB]; rfl
theorem set73 (A B : List Value) (x y z : Value) (hA : A.length = 8) (hB : B.length = 64) : (A ++ (B ++ [x, y])).set 73 z = A ++ (B ++ [x, z]) := by
  rw [List.set_append, if_neg (by omega), List.set_append, if_neg (by omega), hA, hB]; rfl
theorem FAt.setWords {w : World} {b : Nat} {f : Fol} (h : FAt w b f) (ok : f.ok) (h' : List UInt32) (hh : h'.length = 8) : FAt (w.setCells b 0 (arr h').toList) b { f with h := h' } := by
  have := block_setCells (w := w) (arr h').toList 0 (folC f) w h (by simp [arr, hh, folC_length ok])
  unfold FAt
  rw [this]
  congr 3
  have e : (arr h').toList = h'.map U := by simp [arr]
  rw [e]
  simp [folC, hh, ok.1]
theorem FAt.setPiece {w : World} {b : Nat} {f : Fol} (h : FAt w b f) (ok : f.ok) (p' : List UInt8) (hp : p'.length = 64) : FAt (w.setCells b 8 (barr p').toList) b { f with p := p' } := by
  have := block_setCells (w := w) (barr p').toList 8 (folC f) w h (by simp [barr, hp, folC_length ok])
  unfold FAt
  rw [this]
  congr 3
  have e : (barr p').toList = p'.map Y := by simp [barr]
  have l1 : (f.h.map U).length = 8 := by simp [ok.1]
  have l2 : (f.p.map Y).length = 64 := by simp [ok.2.1]
  rw [e]
  simp only [folC, List.length_map, hp]
  rw [List.take_left' l1, drop72 _ _ _ l1 l2, List.append_assoc]
theorem FAt.setHeld {w : World} {b : Nat} {f : Fol} (h : FAt w b f) (ok : f.ok) (k : Nat) : FAt (w.setCell ⟨b, 72, none⟩ (.int .i64 (k : Int))) b { f with held := k } := by
  have l1 : (f.h.map U).length = 8 := by simp [ok.1]
  have l2 : (f.p.map Y).length = 64 := by simp [ok.2.1]
  unfold FAt at *
  simp only [World.setCell, Array.getElem?_modify, if_true, h, Option.map_some]
  congr 2
  simp only [folC, List.setIfInBounds_toArray, Option.isSome_none, Bool.false_eq_true, if_false]
  rw [set72 _ _ _ _ _ l1 l2]
theorem FAt.setN {w : World} {b : Nat} {f : Fol} (h : FAt w b f) (ok : f.ok) (k : Nat) : FAt (w.setCell ⟨b, 73, none⟩ (.int .u64 (k : Int))) b { f with n := k } := by
  have l1 : (f.h.map U).length = 8 := by simp [ok.1]
  have l2 : (f.p.map Y).length = 64 := by simp [ok.2.1]
  unfold FAt at *
  simp only [World.setCell, Array.getElem?_modify, if_true, h, Option.map_some]
  congr 2
  simp only [folC, List.setIfInBounds_toArray, Option.isSome_none, Bool.false_eq_true, if_false]
  rw [set73 _ _ _ _ _ l1 l2]

/-- The folder behind a press. -/
def pressF (f : Fol) (last : Bool) : Fol := { h := pressL f.h (wordsL f.p) f.n last, p := List.replicate 64 0, held := 0, n := f.n }
theorem pressF_ok {f : Fol} (ok : f.ok) (last : Bool) : (pressF f last).ok := ⟨by rw [pressF, pressL_length]; exact ok.1, by simp [pressF], by simp [pressF], ok.2.2.2⟩
theorem size57 : (Tryz.prog.info? 174).map (·.size) = some 64 := by kernel_rfl
theorem barr_one (l : List UInt8) : (barr l).all (·.oneCell') = true := all_oneCell_toArray (fun v hv => by obtain ⟨x, _, rfl⟩ := List.mem_map.1 hv; rfl)
end Go.Proofs.YtmpiipcllgjhdaaGreatDoor.F
namespace Go.Proofs.YtmpiipcllgjhdaaGreatDoor.F
open Go.RowKit

set_option maxRecDepth 100000 in
set_option maxHeartbeats 1000000 in
theorem folPress_any (b : Nat) (f : Fol) (ok : f.ok) (last : Bool) (w : World) (hF : FAt w b f) (hb2 : 3 < b) (hT : Tabs w) (hS : Starts w) :
    Calls Tryz.prog 147 #[.pointer (some ⟨b, 0, none⟩), .bool last] w fun e w' => e = .returned (.tuple #[]) ∧ FAt w' b (pressF f last) ∧ But b w w' := by
  have hT0 : Hid (3 < w.heap.size) := hT.size
  have hu27 := Tryz.underlying173
  have hu57 := Tryz.underlying174
  have i27 : (Tryz.prog.info? 173).map (·.size) = some (arr f.h).toList.length := by rw [size27, Array.length_toList, arr_size, ok.1]
  have i57 : (Tryz.prog.info? 174).map (·.size) = some (barr f.p).toList.length := by rw [size57, Array.length_toList, barr_size, ok.2.1]
  go_enter Tryz.func147, Tryz.ntmps147
  go_wp2_with fail
  have HS : Hid (∀ w', Below w.heap.size w w' → (w'.rangeAt b 8 (barr f.p).toList ∧ w'.cell? ⟨b, 73, none⟩ = some (.int .u64 (f.n : Int)))) := fun w' h => ⟨(hF.of_below h hF.lt).piece ok, (hF.of_below h hF.lt).n ok⟩
  have HW : Hid (∀ w', Below w.heap.size w w' → w'.rangeAt b 0 (arr f.h).toList) := fun w' h => (hF.of_below h hF.lt).words ok
  have b0 : Hid (Below w.heap.size w w.drew) := (Below.refl _ _).drew
  refine wp_region_held_drew (S := fun w' => w'.rangeAt b 8 (barr f.p).toList ∧ w'.cell? ⟨b, 73, none⟩ = some (.int .u64 (f.n : Int))) (by kernel_rfl) (HS.out _ b0.out) (fun hHeld => ?_)
  refine wpAnyH_take (i := 0) (v := .pointer (some ⟨b, 0, none⟩)) rfl (by kernel_rfl) (by kernel_rfl) (by kernel_rfl) (fun _ _ _ h => h) (Or.inl ⟨by rfl, ?_⟩) hHeld ?_
  · intro w _; go_simp
  simp only [Act.put, List.getElem_toArray, List.getElem_cons_succ, List.getElem_cons_zero, List.setIfInBounds_toArray, List.set_cons_zero, List.set_cons_succ, Array.toArray_toList]
  refine wpAnyH_take (i := 1) (v := .pointer (some ⟨b, 0, none⟩)) rfl (by kernel_rfl) (by kernel_rfl) (by kernel_rfl) (fun _ _ _ h => h) (Or.inl ⟨by rfl, ?_⟩) hHeld ?_
  · intro w _; go_simp
  simp only [Act.put, List.getElem_toArray, List.getElem_cons_succ, List.getElem_cons_zero, List.setIfInBounds_toArray, List.set_cons_zero, List.set_cons_succ, Array.toArray_toList]
  refine wpAnyH_take (i := 2) (v := .pointer (some ⟨b, 0, none⟩)) rfl (by kernel_rfl) (by kernel_rfl) (by kernel_rfl) (fun _ _ _ h => h) (Or.inl ⟨by rfl, ?_⟩) hHeld ?_
  · intro w _; go_simp
  simp only [Act.put, List.getElem_toArray, List.getElem_cons_succ, List.getElem_cons_zero, List.setIfInBounds_toArray, List.set_cons_zero, List.set_cons_succ, Array.toArray_toList]
  refine wpAnyH_take (i := 3) (v := .pointer (some ⟨b, 0, none⟩)) rfl (by kernel_rfl) (by kernel_rfl) (by kernel_rfl) (fun _ _ _ h => h) (Or.inl ⟨by rfl, ?_⟩) hHeld ?_
  · intro w _; go_simp
  simp only [Act.put, List.getElem_toArray, List.getElem_cons_succ, List.getElem_cons_zero, List.setIfInBounds_toArray, List.set_cons_zero, List.set_cons_succ, Array.toArray_toList]
  refine wpAnyH_take (i := 5) (v := .pointer (some ⟨b, 0, none⟩)) rfl (by kernel_rfl) (by kernel_rfl) (by kernel_rfl) (fun _ _ _ h => h) (Or.inl ⟨by rfl, ?_⟩) hHeld ?_
  · intro w _; go_simp
  simp only [Act.put, List.getElem_toArray, List.getElem_cons_succ, List.getElem_cons_zero, List.setIfInBounds_toArray, List.set_cons_zero, List.set_cons_succ, Array.toArray_toList]
  refine wpAnyH_take (i := 6) (v := .pointer (some ⟨b, 0, none⟩)) rfl (by kernel_rfl) (by kernel_rfl) (by kernel_rfl) (fun _ _ _ h => h) (Or.inl ⟨by rfl, ?_⟩) hHeld ?_
  · intro w _; go_simp
  simp only [Act.put, List.getElem_toArray, List.getElem_cons_succ, List.getElem_cons_zero, List.setIfInBounds_toArray, List.set_cons_zero, List.set_cons_succ, Array.toArray_toList]
  refine wpAnyH_take (i := 7) (v := .pointer (some ⟨b, 8, none⟩)) rfl (by kernel_rfl) (by kernel_rfl) (by kernel_rfl) (fun _ _ _ h => h) (Or.inl ⟨by rfl, ?_⟩) hHeld ?_
  · intro w _; go_simp
  simp only [Act.put, List.getElem_toArray, List.getElem_cons_succ, List.getElem_cons_zero, List.setIfInBounds_toArray, List.set_cons_zero, List.set_cons_succ, Array.toArray_toList]
  refine wpAnyH_take (i := 10) (v := .pointer (some ⟨b, 0, none⟩)) rfl (by kernel_rfl) (by kernel_rfl) (by kernel_rfl) (fun _ _ _ h => h) (Or.inl ⟨by rfl, ?_⟩) hHeld ?_
  · intro w _; go_simp
  simp only [Act.put, List.getElem_toArray, List.getElem_cons_succ, List.getElem_cons_zero, List.setIfInBounds_toArray, List.set_cons_zero, List.set_cons_succ, Array.toArray_toList]
  refine wpAnyH_take (i := 11) (v := .pointer (some ⟨b, 0, none⟩)) rfl (by kernel_rfl) (by kernel_rfl) (by kernel_rfl) (fun _ _ _ h => h) (Or.inl ⟨by rfl, ?_⟩) hHeld ?_
  · intro w _; go_simp
  simp only [Act.put, List.getElem_toArray, List.getElem_cons_succ, List.getElem_cons_zero, List.setIfInBounds_toArray, List.set_cons_zero, List.set_cons_succ, Array.toArray_toList]
  refine wpAnyH_take (i := 12) (v := .pointer (some ⟨b, 73, none⟩)) rfl (by kernel_rfl) (by kernel_rfl) (by kernel_rfl) (fun _ _ _ h => h) (Or.inl ⟨by rfl, ?_⟩) hHeld ?_
  · intro w _; go_simp
  simp only [Act.put, List.getElem_toArray, List.getElem_cons_succ, List.getElem_cons_zero, List.setIfInBounds_toArray, List.set_cons_zero, List.set_cons_succ, Array.toArray_toList]
  refine wpAnyH_take (i := 14) (v := .bool last) rfl (by kernel_rfl) (by kernel_rfl) (by kernel_rfl) (fun _ _ _ h => h) (Or.inl ⟨by rfl, ?_⟩) hHeld ?_
  · intro w _; go_simp
  simp only [Act.put, List.getElem_toArray, List.getElem_cons_succ, List.getElem_cons_zero, List.setIfInBounds_toArray, List.set_cons_zero, List.set_cons_succ, Array.toArray_toList]
  refine wpAnyH_take (i := 8) rfl (by kernel_rfl) (by kernel_rfl) (by kernel_rfl) (fun _ _ _ h => h) (yieldsIf_load_mid (by rfl) 174 (.tmp 11) rfl _ 8 rfl (barr f.p).toList _ (fun _ h => h.1) hu57 rfl i57) hHeld ?_
  simp only [Act.put, List.getElem_toArray, List.getElem_cons_succ, List.getElem_cons_zero, List.setIfInBounds_toArray, List.set_cons_zero, List.set_cons_succ, Array.toArray_toList]
  refine wpAnyH_take (i := 13) (v := .int .u64 (f.n : Int)) rfl (by kernel_rfl) (by kernel_rfl) (by kernel_rfl) (fun _ _ _ h => h) (Or.inl ⟨by rfl, ?_⟩) hHeld ?_
  · intro w' hS'; obtain ⟨_, hc⟩ := hS'; go_simp
  simp only [Act.put, List.getElem_toArray, List.getElem_cons_succ, List.getElem_cons_zero, List.setIfInBounds_toArray, List.set_cons_zero, List.set_cons_succ, Array.toArray_toList]
  refine wpAnyH_ready (rs := [4, 9]) (by kernel_rfl) (by simp) ?_
  refine AllReadyH.cons rfl (fun K hK => ?_) (AllReadyH.cons rfl (fun K hK => ?_) AllReadyH.nil)
  · rw [if_pos (by rfl)]
    refine wp_load_mid 173 (.tmp 7) rfl b 0 rfl (arr f.h).toList _ (HW.out _ b0.out) hu27 rfl i27 ?_
    simp only [Act.put, List.getElem_toArray, List.getElem_cons_succ, List.getElem_cons_zero, List.setIfInBounds_toArray, List.set_cons_zero, List.set_cons_succ, Array.toArray_toList]
    refine hK.out _ _ (HS.out _ b0.out) (fun hHeld2 => ?_)
    clear hK K
    try simp only [Act.put, List.getElem_toArray, List.getElem_cons_succ, List.getElem_cons_zero, List.setIfInBounds_toArray, List.set_cons_zero, List.set_cons_succ, Array.toArray_toList]
    refine wpAnyH_ready (rs := [9]) (by kernel_rfl) (by simp) ?_
    refine AllReadyH.cons rfl (fun K hK => ?_) AllReadyH.nil
    go_simp
    refine (words_any f.p ok.2.1 _).mono ?_
    rintro e wa ⟨rfl, hbx⟩
    have b1 : Hid (Below w.heap.size w wa) := b0.out.trans (hbx.mono b0.out.size)
    clear hbx
    go_wp2_with fail
    refine hK.out _ _ (HS.out _ b1.out) (fun hHeld3 => ?_)
    clear hK K
    try simp only [Act.put, List.getElem_toArray, List.getElem_cons_succ, List.getElem_cons_zero, List.setIfInBounds_toArray, List.set_cons_zero, List.set_cons_succ, Array.toArray_toList]
    refine wpAnyH_ready (rs := [15]) (by kernel_rfl) (by simp) ?_
    refine AllReadyH.cons rfl (fun K hK => ?_) AllReadyH.nil
    go_simp
    refine (press_any f.h (wordsL f.p) ok.1 (wordsL_length _) f.n ok.2.2.2 last _ (hT.of_below b1.out hT0.out) (hS.of_below b1.out hT0.out)).mono ?_
    rintro e wp ⟨rfl, hbx⟩
    have b9 : Hid (Below w.heap.size w wp) := b1.out.trans (hbx.mono b1.out.size)
    clear hbx
    go_wp2_with fail
    refine hK.out _ _ (HS.out _ b9.out) (fun hHeld9 => ?_)
    clear hK K
    try simp only [Act.put, List.getElem_toArray, List.getElem_cons_succ, List.getElem_cons_zero, List.setIfInBounds_toArray, List.set_cons_zero, List.set_cons_succ, Array.toArray_toList]
    have hP : (pressL f.h (wordsL f.p) f.n last).length = 8 := by rw [pressL_length, ok.1]
    have hPe : Hid (pressF f last = { h := pressL f.h (wordsL f.p) f.n last, p := List.replicate 64 0, held := 0, n := f.n }) := rfl
    have hF9 := hF.of_below b9.out hF.lt
    generalize pressL f.h (wordsL f.p) f.n last = H' at *
    refine wpAnyH_take (i := 16) (v := .pointer (some ⟨b, 0, none⟩)) rfl (by kernel_rfl) (by kernel_rfl) (by kernel_rfl) (fun _ _ _ h => h) (Or.inl ⟨by rfl, ?_⟩) hHeld9 ?_
    · intro w _; go_simp
    simp only [Act.put, List.getElem_toArray, List.getElem_cons_succ, List.getElem_cons_zero, List.setIfInBounds_toArray, List.set_cons_zero, List.set_cons_succ, Array.toArray_toList]
    refine wpAnyH_take (i := 17) (v := .pointer (some ⟨b, 0, none⟩)) rfl (by kernel_rfl) (by kernel_rfl) (by kernel_rfl) (fun _ _ _ h => h) (Or.inl ⟨by rfl, ?_⟩) hHeld9 ?_
    · intro w _; go_simp
    simp only [Act.put, List.getElem_toArray, List.getElem_cons_succ, List.getElem_cons_zero, List.setIfInBounds_toArray, List.set_cons_zero, List.set_cons_succ, Array.toArray_toList]
    have t9 : wp.there b 0 (arr H').size := by rw [arr_size, hP]; exact hF9.there ok 0 8 (by omega)
    have i9 : (Tryz.prog.info? 173).map (·.size) = some (arr H').size := by rw [size27, arr_size, hP]
    have ok1 : Fol.ok { f with h := H' } := ⟨hP, ok.2.1, ok.2.2.1, ok.2.2.2⟩
    have hF10 := hF9.setWords ok H' hP
    refine wpAnyH_ready (rs := [18]) (by kernel_rfl) (by simp) ?_
    refine AllReadyH.cons rfl (fun K hK => ?_) AllReadyH.nil
    rw [if_pos (by rfl)]
    refine wp_store_mid 173 (.tmp 21) (.tmp 19) rfl b 0 (arr H') rfl rfl t9 i9 (arr_one H') ?_
    try simp only [Act.put, List.getElem_toArray, List.getElem_cons_succ, List.getElem_cons_zero, List.setIfInBounds_toArray, List.set_cons_zero, List.set_cons_succ, Array.toArray_toList]
    refine hK.out _ _ ⟨hF10.piece ok1, hF10.n ok1⟩ (fun hHeld10 => ?_)
    clear hK K
    try simp only [Act.put, List.getElem_toArray, List.getElem_cons_succ, List.getElem_cons_zero, List.setIfInBounds_toArray, List.set_cons_zero, List.set_cons_succ, Array.toArray_toList]
    refine wpAnyH_done (by kernel_rfl) ?_ _
    have bX : Hid (But b w (wp.setCells b 0 (arr H').toList)) := But.setOwn _ _ _ ⟨b9.out.os, b9.out.tape, b9.out.output, b9.out.size, fun k hk _ => b9.out.block k hk⟩
    clear hHeld10 hHeld9 t9
    generalize wp.setCells b 0 (arr H').toList = X at *
    have t57 : X.there b 8 (barr (List.replicate 64 0)).size := hF10.there ok1 8 64 (by omega)
    have ok2 : Fol.ok { h := H', p := List.replicate 64 0, held := f.held, n := f.n } := ⟨hP, by simp, ok.2.2.1, ok.2.2.2⟩
    have HZ : Hid (∀ Z, X.setCells b 8 (barr (List.replicate 64 0)).toList = Z → FAt Z b { h := H', p := List.replicate 64 0, held := f.held, n := f.n } ∧ But b w Z) := fun Z hZ => by rw [← hZ]; exact ⟨hF10.setPiece ok1 _ (by simp), But.setOwn _ _ _ bX.out⟩
    have i57' : (Tryz.prog.info? 174).map (·.size) = some (barr (List.replicate 64 0)).size := by rw [size57, barr_size]; simp
    have o57 := barr_one (List.replicate 64 0)
    go_wp2_with (refine wpList_store_mid rfl 174 (.tmp 25) (.tmp 23) rfl b 8 (barr (List.replicate 64 0)) rfl rfl t57 i57' o57 ?_; generalize hZ : X.setCells b 8 (barr (List.replicate 64 0)).toList = Z; have hFZ := HZ.out _ hZ; have c72 := hFZ.1.held ok2; have f72 := hFZ.1.frozen 72; clear hZ)
    go_end0
    refine ⟨rfl, ?_, hFZ.2.setCell _ _⟩
    rw [hPe.out]
    exact hFZ.1.setHeld ok2 0
  · go_simp
    refine (words_any f.p ok.2.1 _).mono ?_
    rintro e wa ⟨rfl, hbx⟩
    have b1 : Hid (Below w.heap.size w wa) := b0.out.trans (hbx.mono b0.out.size)
    clear hbx
    go_wp2_with fail
    refine hK.out _ _ (HS.out _ b1.out) (fun hHeld2 => ?_)
    clear hK K
    try simp only [Act.put, List.getElem_toArray, List.getElem_cons_succ, List.getElem_cons_zero, List.setIfInBounds_toArray, List.set_cons_zero, List.set_cons_succ, Array.toArray_toList]
    refine wpAnyH_ready (rs := [4]) (by kernel_rfl) (by simp) ?_
    refine AllReadyH.cons rfl (fun K hK => ?_) AllReadyH.nil
    rw [if_pos (by rfl)]
    refine wp_load_mid 173 (.tmp 7) rfl b 0 rfl (arr f.h).toList _ (HW.out _ b1.out) hu27 rfl i27 ?_
    simp only [Act.put, List.getElem_toArray, List.getElem_cons_succ, List.getElem_cons_zero, List.setIfInBounds_toArray, List.set_cons_zero, List.set_cons_succ, Array.toArray_toList]
    refine hK.out _ _ (HS.out _ b1.out) (fun hHeld3 => ?_)
    clear hK K
    try simp only [Act.put, List.getElem_toArray, List.getElem_cons_succ, List.getElem_cons_zero, List.setIfInBounds_toArray, List.set_cons_zero, List.set_cons_succ, Array.toArray_toList]
    refine wpAnyH_ready (rs := [15]) (by kernel_rfl) (by simp) ?_
    refine AllReadyH.cons rfl (fun K hK => ?_) AllReadyH.nil
    go_simp
    refine (press_any f.h (wordsL f.p) ok.1 (wordsL_length _) f.n ok.2.2.2 last _ (hT.of_below b1.out hT0.out) (hS.of_below b1.out hT0.out)).mono ?_
    rintro e wp ⟨rfl, hbx⟩
    have b9 : Hid (Below w.heap.size w wp) := b1.out.trans (hbx.mono b1.out.size)
    clear hbx
    go_wp2_with fail
    refine hK.out _ _ (HS.out _ b9.out) (fun hHeld9 => ?_)
    clear hK K
    try simp only [Act.put, List.getElem_toArray, List.getElem_cons_succ, List.getElem_cons_zero, List.setIfInBounds_toArray, List.set_cons_zero, List.set_cons_succ, Array.toArray_toList]
    have hP : (pressL f.h (wordsL f.p) f.n last).length = 8 := by rw [pressL_length, ok.1]
    have hPe : Hid (pressF f last = { h := pressL f.h (wordsL f.p) f.n last, p := List.replicate 64 0, held := 0, n := f.n }) := rfl
    have hF9 := hF.of_below b9.out hF.lt
    generalize pressL f.h (wordsL f.p) f.n last = H' at *
    refine wpAnyH_take (i := 16) (v := .pointer (some ⟨b, 0, none⟩)) rfl (by kernel_rfl) (by kernel_rfl) (by kernel_rfl) (fun _ _ _ h => h) (Or.inl ⟨by rfl, ?_⟩) hHeld9 ?_
    · intro w _; go_simp
    simp only [Act.put, List.getElem_toArray, List.getElem_cons_succ, List.getElem_cons_zero, List.setIfInBounds_toArray, List.set_cons_zero, List.set_cons_succ, Array.toArray_toList]
    refine wpAnyH_take (i := 17) (v := .pointer (some ⟨b, 0, none⟩)) rfl (by kernel_rfl) (by kernel_rfl) (by kernel_rfl) (fun _ _ _ h => h) (Or.inl ⟨by rfl, ?_⟩) hHeld9 ?_
    · intro w _; go_simp
    simp only [Act.put, List.getElem_toArray, List.getElem_cons_succ, List.getElem_cons_zero, List.setIfInBounds_toArray, List.set_cons_zero, List.set_cons_succ, Array.toArray_toList]
    have t9 : wp.there b 0 (arr H').size := by rw [arr_size, hP]; exact hF9.there ok 0 8 (by omega)
    have i9 : (Tryz.prog.info? 173).map (·.size) = some (arr H').size := by rw [size27, arr_size, hP]
    have ok1 : Fol.ok { f with h := H' } := ⟨hP, ok.2.1, ok.2.2.1, ok.2.2.2⟩
    have hF10 := hF9.setWords ok H' hP
    refine wpAnyH_ready (rs := [18]) (by kernel_rfl) (by simp) ?_
    refine AllReadyH.cons rfl (fun K hK => ?_) AllReadyH.nil
    rw [if_pos (by rfl)]
    refine wp_store_mid 173 (.tmp 21) (.tmp 19) rfl b 0 (arr H') rfl rfl t9 i9 (arr_one H') ?_
    try simp only [Act.put, List.getElem_toArray, List.getElem_cons_succ, List.getElem_cons_zero, List.setIfInBounds_toArray, List.set_cons_zero, List.set_cons_succ, Array.toArray_toList]
    refine hK.out _ _ ⟨hF10.piece ok1, hF10.n ok1⟩ (fun hHeld10 => ?_)
    clear hK K
    try simp only [Act.put, List.getElem_toArray, List.getElem_cons_succ, List.getElem_cons_zero, List.setIfInBounds_toArray, List.set_cons_zero, List.set_cons_succ, Array.toArray_toList]
    refine wpAnyH_done (by kernel_rfl) ?_ _
    have bX : Hid (But b w (wp.setCells b 0 (arr H').toList)) := But.setOwn _ _ _ ⟨b9.out.os, b9.out.tape, b9.out.output, b9.out.size, fun k hk _ => b9.out.block k hk⟩
    clear hHeld10 hHeld9 t9
    generalize wp.setCells b 0 (arr H').toList = X at *
    have t57 : X.there b 8 (barr (List.replicate 64 0)).size := hF10.there ok1 8 64 (by omega)
    have ok2 : Fol.ok { h := H', p := List.replicate 64 0, held := f.held, n := f.n } := ⟨hP, by simp, ok.2.2.1, ok.2.2.2⟩
    have HZ : Hid (∀ Z, X.setCells b 8 (barr (List.replicate 64 0)).toList = Z → FAt Z b { h := H', p := List.replicate 64 0, held := f.held, n := f.n } ∧ But b w Z) := fun Z hZ => by rw [← hZ]; exact ⟨hF10.setPiece ok1 _ (by simp), But.setOwn _ _ _ bX.out⟩
    have i57' : (Tryz.prog.info? 174).map (·.size) = some (barr (List.replicate 64 0)).size := by rw [size57, barr_size]; simp
    have o57 := barr_one (List.replicate 64 0)
    go_wp2_with (refine wpList_store_mid rfl 174 (.tmp 25) (.tmp 23) rfl b 8 (barr (List.replicate 64 0)) rfl rfl t57 i57' o57 ?_; generalize hZ : X.setCells b 8 (barr (List.replicate 64 0)).toList = Z; have hFZ := HZ.out _ hZ; have c72 := hFZ.1.held ok2; have f72 := hFZ.1.frozen 72; clear hZ)
    go_end0
    refine ⟨rfl, ?_, hFZ.2.setCell _ _⟩
    rw [hPe.out]
    exact hFZ.1.setHeld ok2 0
end Go.Proofs.YtmpiipcllgjhdaaGreatDoor.F
namespace Go.Proofs.YtmpiipcllgjhdaaGreatDoor.F
open Go.RowKit

/-- Bytes with zeros behind, 64 in all. -/
def pad64 (l : List UInt8) : List UInt8 := l ++ List.replicate (64 - l.length) 0
theorem pad64_length (l : List UInt8) (h : l.length ≤ 64) : (pad64 l).length = 64 := by simp [pad64]; omega
/-- The piece of a text with number k. -/
def pieceAt (T : List UInt8) (k : Nat) : List UInt8 := pad64 ((T.drop (64 * k)).take 64)
theorem pieceAt_length (T : List UInt8) (k : Nat) : (pieceAt T k).length = 64 := pad64_length _ (by simp; omega)
/-- The words behind k full pieces. -/
def hashTo (h0 : List UInt32) (T : List UInt8) : Nat → List UInt32
  | 0 => h0
  | k + 1 => pressL (hashTo h0 T k) (wordsL (pieceAt T k)) (64 * (k + 1)) false
theorem hashTo_length (h0 : List UInt32) (hh : h0.length = 8) (T : List UInt8) : ∀ k, (hashTo h0 T k).length = 8
  | 0 => hh
  | k + 1 => by rw [hashTo, pressL_length, hashTo_length h0 hh T k]
theorem pieceAt_more (T b : List UInt8) (k : Nat) (h : 64 * (k + 1) ≤ T.length) : pieceAt (T ++ b) k = pieceAt T k := by
  unfold pieceAt
  rw [List.drop_append_of_le_length (by omega), List.take_append_of_le_length (by simp; omega)]
theorem hashTo_more (h0 : List UInt32) (T b : List UInt8) : ∀ k, 64 * k ≤ T.length → hashTo h0 (T ++ b) k = hashTo h0 T k
  | 0, _ => rfl
  | k + 1, h => by rw [hashTo, hashTo, hashTo_more h0 T b k (by omega), pieceAt_more T b k h]
/-- A folder holds a text. -/
structure Rep (h0 : List UInt32) (T : List UInt8) (f : Fol) : Prop where
  h : f.h = hashTo h0 T ((T.length - 1) / 64)
  p : f.p = pieceAt T ((T.length - 1) / 64)
  held : f.held = T.length - 64 * ((T.length - 1) / 64)
  n : f.n = T.length
theorem Rep.ok {h0 : List UInt32} {T : List UInt8} {f : Fol} (r : Rep h0 T f) (hh : h0.length = 8) (hn : T.length < 18446744073709551616) : f.ok :=
  ⟨by rw [r.h]; exact hashTo_length h0 hh T _, by rw [r.p]; exact pieceAt_length _ _, by rw [r.held]; omega, by rw [r.n]; exact hn⟩
/-- What comes into the piece. -/
def putF (f : Fol) (c : List UInt8) : Fol := { h := f.h, p := f.p.take f.held ++ c ++ f.p.drop (f.held + c.length), held := f.held + c.length, n := f.n + c.length }
theorem putF_length {f : Fol} (ok : f.ok) (c : List UInt8) (hc : f.held + c.length ≤ 64) : (putF f c).p.length = 64 := by
  have := ok.2.1
  have := ok.2.2.1
  simp [putF]; omega
theorem pad_put (l c : List UInt8) (h : l.length + c.length ≤ 64) : (pad64 l).take l.length ++ c ++ (pad64 l).drop (l.length + c.length) = pad64 (l ++ c) := by
  unfold pad64
  rw [List.take_left' rfl, List.drop_append, List.drop_of_length_le (by omega)]
  simp
  omega
theorem Rep.put {h0 : List UInt32} {T : List UInt8} {f : Fol} (r : Rep h0 T f) (c : List UInt8) (hl : f.held < 64) (hc : f.held + c.length ≤ 64) : Rep h0 (T ++ c) (putF f c) := by
  have e1 := r.held
  have hk : ((T ++ c).length - 1) / 64 = (T.length - 1) / 64 := by simp; omega
  generalize hK : (T.length - 1) / 64 = k at *
  have hT : 64 * k ≤ T.length := by omega
  refine ⟨?_, ?_, ?_, ?_⟩
  · rw [hk]; show f.h = _; rw [r.h, hK, hashTo_more h0 T c k hT]
  · rw [hk]
    show f.p.take f.held ++ c ++ f.p.drop (f.held + c.length) = _
    have e2 : (T.drop (64 * k)).take 64 = T.drop (64 * k) := List.take_of_length_le (by simp; omega)
    have e3 : f.held = (T.drop (64 * k)).length := by rw [e1, List.length_drop]
    rw [r.p, hK, pieceAt, e2, e3, pad_put _ _ (by rw [← e3]; exact hc), pieceAt, List.drop_append_of_le_length hT, List.take_of_length_le (by simp; omega)]
  · rw [hk]; show f.held + c.length = _; rw [e1]; simp; omega
  · show f.n + c.length = _; rw [r.n]; simp
theorem Rep.full {h0 : List UInt32} {T : List UInt8} {f : Fol} (r : Rep h0 T f) (c : List UInt8) (hl : f.held = 64) (hc : c.length ≤ 64) (hp : 0 < c.length) : Rep h0 (T ++ c) (putF (pressF f false) c) := by
  have e1 := r.held
  have e4 := r.n
  have hk : ((T ++ c).length - 1) / 64 = (T.length - 1) / 64 + 1 := by simp; omega
  generalize hK : (T.length - 1) / 64 = k at *
  have hT : T.length = 64 * (k + 1) := by omega
  refine ⟨?_, ?_, ?_, ?_⟩
  · rw [hk, hashTo_more h0 T c (k + 1) (by omega)]
    show pressL f.h (wordsL f.p) f.n false = pressL (hashTo h0 T k) (wordsL (pieceAt T k)) (64 * (k + 1)) false
    rw [r.h, r.p, hK, e4, hT]
  · rw [hk]
    show (List.replicate 64 0).take 0 ++ c ++ (List.replicate 64 0).drop (0 + c.length) = _
    have e5 : (T ++ c).drop (64 * (k + 1)) = c := by rw [← hT]; exact List.drop_left' rfl
    rw [pieceAt, e5, List.take_of_length_le hc, pad64, List.drop_replicate, List.take_zero, List.nil_append, Nat.zero_add]
  · rw [hk]; show 0 + c.length = _; simp [hT]
  · show f.n + c.length = _; rw [e4]; simp
end Go.Proofs.YtmpiipcllgjhdaaGreatDoor.F
namespace Go.Proofs.YtmpiipcllgjhdaaGreatDoor.F
open Go.RowKit

/-- 'copy' from a string of whatever length. -/
theorem run_copy_some (w : World) (dT sT ty elem : TypeId) (b o dLen dCap n : Nat) (t : ByteArray)
    (hu : Tryz.prog.underlying dT = some (.slice elem)) (hz : ∀ w, (Go.sizeOf elem).run Tryz.prog w = .ok 1 w) (hn : n = Nat.min t.size dLen)
    (ht : w.there b o n) :
    (Builtin.copy_ #[dT, sT] ty #[.slice (some ⟨b, o, none⟩) dLen dCap, .string t]).run Tryz.prog w = .ok (goInt n) (w.setCells b o ((t.data.toList.take n).map Y)) := by
  have hle : n ≤ t.size := by rw [hn]; exact Nat.min_le_left _ _
  have hl : ((t.data.toList.take n).map Y).length = n := by
    rw [List.length_map, List.length_take, ← Lib.size_eq]; omega
  have hst := run_storeCells_cells (P := Tryz.prog) b o ((t.data.toList.take n).map Y) 0 w (by rw [hl]; intro j hj; simpa using (ht j hj).1) (by rw [hl]; intro j hj; simpa using (ht j hj).2) (by
    intro v hv
    obtain ⟨x, _, rfl⟩ := List.mem_map.1 hv
    rfl)
  simp [Builtin.copy_, run_underlying hu, Builtin.lenOf, Builtin.firstCells, hz, ← hn]
  rw [← List.map_take, hst]
  rfl
theorem ext_end (s : ByteArray) (a : Nat) : (s.extract a s.size).data.toList = s.data.toList.drop a := by
  have h1 : s.data.toList.length = s.size := rfl
  simp only [ByteArray.data_extract, Array.toList_extract, List.extract_eq_take_drop]
  rw [List.take_of_length_le (by rw [List.length_drop, h1]; exact Nat.le_refl _)]
theorem Starts.of_but {w w' : World} {b : Nat} (h : Starts w) (hb : But b w w') (h2 : 3 < b) (hs : 3 < w.heap.size) : Starts w' :=
  ⟨fun i hi => by rw [hb.cell (by omega) (by omega)]; exact h.sta i hi⟩
theorem put_cells (A P C c : List Value) (o : Nat) (hA : A.length = 8) (hP : P.length = 64) (ho : o + c.length ≤ 64) :
    (A ++ (P ++ C)).take (8 + o) ++ c ++ (A ++ (P ++ C)).drop (8 + o + c.length) = A ++ ((P.take o ++ c ++ P.drop (o + c.length)) ++ C) := by
  have e1 : (A ++ (P ++ C)).take (8 + o) = A ++ P.take o := by
    rw [← hA, List.take_length_add_append, List.take_append_of_le_length (by omega)]
  have e2 : (A ++ (P ++ C)).drop (8 + o + c.length) = P.drop (o + c.length) ++ C := by
    rw [Nat.add_assoc, ← hA, List.drop_length_add_append, List.drop_append_of_le_length (by omega)]
  rw [e1, e2]; simp
/-- Some bytes of the piece are set. -/
theorem FAt.setPart {w : World} {b : Nat} {f : Fol} (h : FAt w b f) (ok : f.ok) (o : Nat) (c : List UInt8) (hc : o + c.length ≤ 64) : FAt (w.setCells b (8 + o) (c.map Y)) b { f with p := f.p.take o ++ c ++ f.p.drop (o + c.length) } := by
  have l1 : (f.h.map U).length = 8 := by simp [ok.1]
  have l2 : (f.p.map Y).length = 64 := by simp [ok.2.1]
  have := block_setCells (w := w) (c.map Y) (8 + o) (folC f) w h (by rw [folC_length ok]; simp; omega)
  unfold FAt
  rw [this]
  congr 2
  simp only [folC]
  rw [put_cells _ _ _ _ _ l1 l2 (by simpa using hc)]
  simp

set_option maxRecDepth 100000 in
set_option maxHeartbeats 1000000 in
theorem add_any (b : Nat) (h0 : List UInt32) (hh : h0.length = 8) (T : List UInt8) (f : Fol) (r : Rep h0 T f) (t : ByteArray) (hn : T.length + t.size < 18446744073709551616)
    (w : World) (hF : FAt w b f) (hb2 : 3 < b) (hT : Tabs w) (hS : Starts w) :
    Calls Tryz.prog 145 #[.pointer (some ⟨b, 0, none⟩), .string t] w fun e w' => e = .returned (.tuple #[]) ∧ (∃ f', Rep h0 (T ++ t.data.toList) f' ∧ FAt w' b f') ∧ But b w w' := by
  go_enter Tryz.func145, Tryz.ntmps145
  go_wp2_with fail
  go_loopg [1] t.size (fun k v wr => ∃ (s : ByteArray) (T' : List UInt8) (f' : Fol), s.size = k ∧ v = .string s ∧ T' ++ s.data.toList = T ++ t.data.toList ∧ Rep h0 T' f' ∧ FAt wr b f' ∧ But b w wr)
  case atStart => exact ⟨t, T, f, rfl, rfl, rfl, r, hF, But.refl _ _⟩
  case round =>
    obtain ⟨s, T', f', hk, rfl, hcat, r', hF', hb⟩ := hrel
    have HC : Hid (T' ++ s.data.toList = T ++ t.data.toList) := hcat
    have hlen : T'.length + s.size = T.length + t.size := by
      have := congrArg List.length hcat
      simpa [← Lib.size_eq] using this
    clear hcat
    have ok' : f'.ok := r'.ok hh (by omega)
    have HT : Hid (Tabs wr) := hT.of_but hb hb2
    have HS : Hid (Starts wr) := hS.of_but hb hb2 hT.size
    by_cases hs : s = ByteArray.mk #[]
    · subst hs
      go_wp2_with fail
      go_end0
      refine ⟨rfl, ⟨f', ?_, hF'⟩, hb⟩
      have := HC.out
      simp at this
      rw [← this]; exact r'
    · have hpos : 0 < s.size := by
        refine Nat.pos_of_ne_zero fun h => hs ?_
        exact ByteArray.ext (Array.eq_empty_of_size_eq_zero h)
      have hse : s.toList.isEmpty = false := by
        rw [Lib.toList_data]
        cases hq : s.data.toList with
        | nil => rw [Lib.size_eq, hq] at hpos; simp at hpos
        | cons _ _ => rfl
      clear hs
      have hnn := r'.n
      have c72 := hF'.held ok'
      by_cases hheld : f'.held = 64
      · have e64 : (f'.held : Int) = 64 := by omega
        go_wp2_with fail
        refine (folPress_any b f' ok' false wr hF' hb2 HT.out HS.out).mono ?_
        rintro e X ⟨rfl, HF, hbX⟩
        have okF := pressF_ok ok' false
        have HB : Hid (But b w X) := hb.trans hbX
        have HP : Hid (∀ c : List UInt8, 0 < c.length → (pressF f' false).held + c.length ≤ 64 → Rep h0 (T' ++ c) (putF (pressF f' false) c)) := fun c h1 h2 => r'.full c hheld (by simpa [pressF] using h2) h1
        have hlt : (pressF f' false).held < 64 := by simp [pressF]
        have hFn : (pressF f' false).n = T'.length := hnn
        clear c72 e64 hheld hnn hbX
        generalize pressF f' false = F at *
        go_wp2_with fail
        obtain ⟨m, hm⟩ : ∃ m, m = Nat.min s.size (64 - F.held) := ⟨_, rfl⟩
        have hm1 : m ≤ s.size := by rw [hm]; exact Nat.min_le_left _ _
        have hm2 : m ≤ 64 - F.held := by rw [hm]; exact Nat.min_le_right _ _
        have hm3 : 0 < m := by rw [hm]; exact Nat.lt_min.2 ⟨by omega, by omega⟩
        have hth : X.drew.there b (8 + F.held) m := (show FAt X.drew b F from HF).there okF _ _ (by omega)
        have hcp := run_copy_some X.drew 143 9 3 5 b (8 + F.held) (64 - F.held) (64 - F.held) m s Tryz.underlying143 sizeOf5 hm hth
        have hsl := fun w' => slice57_from b 8 (F.held : Int) F.held rfl hlt w'
        have c72 := HF.held okF
        have hcl : Hid ((s.data.toList.take m).length = m) := by show _ = _; rw [List.length_take, ← Lib.size_eq]; omega
        have HR : Hid (Rep h0 (T' ++ s.data.toList.take m) (putF F (s.data.toList.take m))) := HP.out _ (by rw [hcl.out]; exact hm3) (by rw [hcl.out]; omega)
        have HZ : Hid (FAt (X.drew.setCells b (8 + F.held) ((s.data.toList.take m).map Y)) b { F with p := (putF F (s.data.toList.take m)).p } ∧ But b w (X.drew.setCells b (8 + F.held) ((s.data.toList.take m).map Y))) := ⟨(show FAt X.drew b F from HF).setPart okF _ _ (by rw [hcl.out]; omega), But.setOwn _ _ _ HB.out.drew⟩
        have hpl : (putF F (s.data.toList.take m)).p.length = 64 := putF_length okF _ (by rw [hcl.out]; omega)
        have hpe : Hid (putF F (s.data.toList.take m) = { h := F.h, p := (putF F (s.data.toList.take m)).p, held := F.held + m, n := F.n + m }) := by show _ = _; simp only [putF, hcl.out]
        clear hm hth
        generalize X.drew.setCells b (8 + F.held) ((s.data.toList.take m).map Y) = Z at *
        generalize (putF F (s.data.toList.take m)).p = p' at *
        refine wp_region_still_tail 9 mixedW (by kernel_rfl) ?_
        simp only [List.take_succ_cons, List.take_zero, List.drop_succ_cons, List.drop_zero]
        show wpStill _ _ X.drew _ _ _
        repeat still_step
        refine wpStill_nil ?_
        clear c72
        have okZ : Fol.ok { F with p := p' } := ⟨okF.1, hpl, okF.2.2⟩
        have okZ2 : Fol.ok { F with p := p', held := F.held + m } := ⟨okF.1, hpl, by show F.held + m ≤ 64; omega, okF.2.2.2⟩
        have hF1 := HZ.out.1
        have hF2 : FAt (Z.setCell ⟨b, 72, none⟩ (.int .i64 ((F.held : Int) + (m : Int)))) b { F with p := p', held := F.held + m } := by have := hF1.setHeld okZ (F.held + m); rwa [Int.natCast_add] at this
        have c72 : Z.cell? ⟨b, 72, none⟩ = some (.int .i64 (F.held : Int)) := hF1.held okZ
        have f72 := hF1.frozen 72
        have k72 : IntKind.i64.wrap ((F.held : Int) + (m : Int)) = ((F.held : Int) + (m : Int)) := IntWalk.i64_in _ ⟨by omega, by omega⟩
        have c73 : (Z.setCell ⟨b, 72, none⟩ (.int .i64 ((F.held : Int) + (m : Int)))).cell? ⟨b, 73, none⟩ = some (.int .u64 (F.n : Int)) := hF2.n okZ2
        have f73 := hF2.frozen 73
        have n0 : F.n + m < 18446744073709551616 := by omega
        have k73 : IntKind.u64.wrap ((F.n : Int) + (m : Int)) = ((F.n : Int) + (m : Int)) := IntWalk.u64_in _ ⟨by omega, by omega⟩
        have k74 : IntKind.u64.wrap (m : Int) = (m : Int) := IntWalk.u64_in _ ⟨by omega, by omega⟩
        have HF3 : Hid (FAt ((Z.setCell ⟨b, 72, none⟩ (.int .i64 ((F.held : Int) + (m : Int)))).setCell ⟨b, 73, none⟩ (.int .u64 ((F.n : Int) + (m : Int)))) b { h := F.h, p := p', held := F.held + m, n := F.n + m }) := by have := hF2.setN okZ2 (F.n + m); rw [Int.natCast_add] at this; exact this
        have b0 : (0 : Int) ≤ (m : Int) := by omega
        have b1 : (m : Int) ≤ (s.size : Int) := by omega
        go_wp2_with fail
        go_roundg (s.size - m)
        case measure => omega
        case rel =>
          refine ⟨s.extract m s.size, T' ++ s.data.toList.take m, _, ?_, ?_, ?_, HR.out, ?_, (HZ.out.2.setCell _ _).setCell _ _⟩
          · rw [ByteArray.size_extract]; omega
          · rw [hk]
          · rw [ext_end, List.append_assoc, List.take_append_drop]; exact HC.out
          · rw [hpe.out, ← hFn]; exact HF3.out
      · have e64 : ¬ ((f'.held : Int) = 64) := by omega
        go_wp2_with fail
        have hlt : f'.held < 64 := by have := ok'.2.2.1; omega
        have HB : Hid (But b w wr) := hb
        have HP : Hid (∀ c : List UInt8, 0 < c.length → f'.held + c.length ≤ 64 → Rep h0 (T' ++ c) (putF f' c)) := fun c h1 h2 => r'.put c hlt h2
        have HF := hF'
        have okF := ok'
        have hFn := hnn
        clear c72 e64 hheld hnn
        generalize f' = F at *
        obtain ⟨m, hm⟩ : ∃ m, m = Nat.min s.size (64 - F.held) := ⟨_, rfl⟩
        have hm1 : m ≤ s.size := by rw [hm]; exact Nat.min_le_left _ _
        have hm2 : m ≤ 64 - F.held := by rw [hm]; exact Nat.min_le_right _ _
        have hm3 : 0 < m := by rw [hm]; exact Nat.lt_min.2 ⟨by omega, by omega⟩
        have hth : wr.drew.there b (8 + F.held) m := (show FAt wr.drew b F from HF).there okF _ _ (by omega)
        have hcp := run_copy_some wr.drew 143 9 3 5 b (8 + F.held) (64 - F.held) (64 - F.held) m s Tryz.underlying143 sizeOf5 hm hth
        have hsl := fun w' => slice57_from b 8 (F.held : Int) F.held rfl hlt w'
        have c72 := HF.held okF
        have hcl : Hid ((s.data.toList.take m).length = m) := by show _ = _; rw [List.length_take, ← Lib.size_eq]; omega
        have HR : Hid (Rep h0 (T' ++ s.data.toList.take m) (putF F (s.data.toList.take m))) := HP.out _ (by rw [hcl.out]; exact hm3) (by rw [hcl.out]; omega)
        have HZ : Hid (FAt (wr.drew.setCells b (8 + F.held) ((s.data.toList.take m).map Y)) b { F with p := (putF F (s.data.toList.take m)).p } ∧ But b w (wr.drew.setCells b (8 + F.held) ((s.data.toList.take m).map Y))) := ⟨(show FAt wr.drew b F from HF).setPart okF _ _ (by rw [hcl.out]; omega), But.setOwn _ _ _ HB.out.drew⟩
        have hpl : (putF F (s.data.toList.take m)).p.length = 64 := putF_length okF _ (by rw [hcl.out]; omega)
        have hpe : Hid (putF F (s.data.toList.take m) = { h := F.h, p := (putF F (s.data.toList.take m)).p, held := F.held + m, n := F.n + m }) := by show _ = _; simp only [putF, hcl.out]
        clear hm hth
        generalize wr.drew.setCells b (8 + F.held) ((s.data.toList.take m).map Y) = Z at *
        generalize (putF F (s.data.toList.take m)).p = p' at *
        refine wp_region_still_tail 9 mixedW (by kernel_rfl) ?_
        simp only [List.take_succ_cons, List.take_zero, List.drop_succ_cons, List.drop_zero]
        show wpStill _ _ wr.drew _ _ _
        repeat still_step
        refine wpStill_nil ?_
        clear c72
        have okZ : Fol.ok { F with p := p' } := ⟨okF.1, hpl, okF.2.2⟩
        have okZ2 : Fol.ok { F with p := p', held := F.held + m } := ⟨okF.1, hpl, by show F.held + m ≤ 64; omega, okF.2.2.2⟩
        have hF1 := HZ.out.1
        have hF2 : FAt (Z.setCell ⟨b, 72, none⟩ (.int .i64 ((F.held : Int) + (m : Int)))) b { F with p := p', held := F.held + m } := by have := hF1.setHeld okZ (F.held + m); rwa [Int.natCast_add] at this
        have c72 : Z.cell? ⟨b, 72, none⟩ = some (.int .i64 (F.held : Int)) := hF1.held okZ
        have f72 := hF1.frozen 72
        have k72 : IntKind.i64.wrap ((F.held : Int) + (m : Int)) = ((F.held : Int) + (m : Int)) := IntWalk.i64_in _ ⟨by omega, by omega⟩
        have c73 : (Z.setCell ⟨b, 72, none⟩ (.int .i64 ((F.held : Int) + (m : Int)))).cell? ⟨b, 73, none⟩ = some (.int .u64 (F.n : Int)) := hF2.n okZ2
        have f73 := hF2.frozen 73
        have n0 : F.n + m < 18446744073709551616 := by omega
        have k73 : IntKind.u64.wrap ((F.n : Int) + (m : Int)) = ((F.n : Int) + (m : Int)) := IntWalk.u64_in _ ⟨by omega, by omega⟩
        have k74 : IntKind.u64.wrap (m : Int) = (m : Int) := IntWalk.u64_in _ ⟨by omega, by omega⟩
        have HF3 : Hid (FAt ((Z.setCell ⟨b, 72, none⟩ (.int .i64 ((F.held : Int) + (m : Int)))).setCell ⟨b, 73, none⟩ (.int .u64 ((F.n : Int) + (m : Int)))) b { h := F.h, p := p', held := F.held + m, n := F.n + m }) := by have := hF2.setN okZ2 (F.n + m); rw [Int.natCast_add] at this; exact this
        have b0 : (0 : Int) ≤ (m : Int) := by omega
        have b1 : (m : Int) ≤ (s.size : Int) := by omega
        go_wp2_with fail
        go_roundg (s.size - m)
        case measure => omega
        case rel =>
          refine ⟨s.extract m s.size, T' ++ s.data.toList.take m, _, ?_, ?_, ?_, HR.out, ?_, (HZ.out.2.setCell _ _).setCell _ _⟩
          · rw [ByteArray.size_extract]; omega
          · rw [hk]
          · rw [ext_end, List.append_assoc, List.take_append_drop]; exact HC.out
          · rw [hpe.out, ← hFn]; exact HF3.out
end Go.Proofs.YtmpiipcllgjhdaaGreatDoor.F
