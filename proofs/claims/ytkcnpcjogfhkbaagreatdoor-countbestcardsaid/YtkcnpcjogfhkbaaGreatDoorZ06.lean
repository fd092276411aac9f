/- The walk of a folder's press: its piece folded into its words; the next piece begins with zeros. The walk of a folder's press. -/
import Derived.Test.YtkcnpcjogfhkbaaGreatDoorZ03
import Derived.Test.YtkcnpcjogfhkbaaGreatDoorZ05
import Derived.Deep.RegionHeld3
set_option linter.unusedSimpArgs false
set_option linter.unusedVariables false
set_option maxRecDepth 100000
namespace Go.Proofs.YtkcnpcjogfhkbaaGreatDoor.F
open Go.RowKit

/-- A folder: its words, its piece, how many bytes of it are there, how many of the text. -/
structure Fol where
  h : List UInt32
  p : List UInt8
  held : Nat
  n : Nat
def Fol.ok (f : Fol) : Prop := f.h.length = 8 ∧ f.p.length = 64 ∧ f.held ≤ 64 ∧ f.n < 18446744073709551616
def folC (f : Fol) : List Value := f.h.map U ++ (f.p.map Y ++ [.int .i64 (f.held : Int), .int .u64 (f.n : Int)])
theorem folC_length {f : Fol} (h : f.ok) : (folC f).length = 74 := by simp [folC, h.1, h.2.1]
/-- A folder lies in block b. -/
def FAt (w : World) (b : Nat) (f : Fol) : Prop := w.heap[b]? = some (.cells (folC f).toArray 137)
theorem FAt.lt {w : World} {b : Nat} {f : Fol} (h : FAt w b f) : b < w.heap.size := (Array.getElem?_eq_some_iff.1 h).1
theorem FAt.cell {w : World} {b : Nat} {f : Fol} (h : FAt w b f) (i : Nat) : w.cell? ⟨b, i, none⟩ = (folC f)[i]? := by
  unfold FAt at h
  simp [World.cell?, h]
theorem FAt.frozen {w : World} {b : Nat} {f : Fol} (h : FAt w b f) (i : Nat) : w.frozen? ⟨b, i, none⟩ = false := by
  unfold FAt at h
  simp [World.frozen?, h]
theorem FAt.of_below {w w' : World} {b B : Nat} {f : Fol} (h : FAt w b f) (hb : Below B w w') (hB : b < B) : FAt w' b f := by
  unfold FAt; rw [hb.block b hB]; exact h
theorem FAt.alloc {w : World} {b : Nat} {f : Fol} (h : FAt w b f) (o : Obj) : FAt (w.alloc o) b f := by
  unfold FAt; rw [Below.heap_alloc _ _ _ h.lt]; exact h
theorem FAt.words {w : World} {b : Nat} {f : Fol} (h : FAt w b f) (ok : f.ok) : w.rangeAt b 0 (arr f.h).toList := by
  intro j v hv
  have hj : j < 8 := by
    have := (List.getElem?_eq_some_iff.1 hv).1
    simpa [arr, ok.1] using this
  rw [Nat.zero_add, h.cell, folC, List.getElem?_append_left (by simp [ok.1]; omega)]
  simpa [arr] using hv
theorem FAt.piece {w : World} {b : Nat} {f : Fol} (h : FAt w b f) (ok : f.ok) : w.rangeAt b 8 (barr f.p).toList := by
  intro j v hv
  have hj : j < 64 := by
    have := (List.getElem?_eq_some_iff.1 hv).1
    simpa [barr, ok.2.1] using this
  rw [h.cell, folC, List.getElem?_append_right (by simp [ok.1]), List.getElem?_append_left (by simp [ok.1, ok.2.1]; omega)]
  have e : 8 + j - (f.h.map U).length = j := by simp [ok.1]
  rw [e]
  simpa [barr] using hv
theorem FAt.held {w : World} {b : Nat} {f : Fol} (h : FAt w b f) (ok : f.ok) : w.cell? ⟨b, 72, none⟩ = some (.int .i64 (f.held : Int)) := by
  rw [h.cell, folC, List.getElem?_append_right (by simp [ok.1]), List.getElem?_append_right (by simp [ok.1, ok.2.1])]
  simp [ok.1, ok.2.1]
theorem FAt.n {w : World} {b : Nat} {f : Fol} (h : FAt w b f) (ok : f.ok) : w.cell? ⟨b, 73, none⟩ = some (.int .u64 (f.n : Int)) := by
  rw [h.cell, folC, List.getElem?_append_right (by simp [ok.1]), List.getElem?_append_right (by simp [ok.1, ok.2.1])]
  simp [ok.1, ok.2.1]
theorem FAt.there {w : World} {b : Nat} {f : Fol} (h : FAt w b f) (ok : f.ok) (o n : Nat) (hn : o + n ≤ 74) : w.there b o n := by
  intro j hj
  rw [h.cell, h.frozen]
  refine ⟨?_, rfl⟩
  rw [List.getElem?_eq_getElem (by rw [folC_length ok]; omega)]
  rfl
/-- Cells of a block set one by one. -/
theorem block_setCells {w : World} {b : Nat} {t : TypeId} : ∀ (vs : List Value) (o : Nat) (cs : List Value) (w : World), w.heap[b]? = some (.cells cs.toArray t) → o + vs.length ≤ cs.length →
    (w.setCells b o vs).heap[b]? = some (.cells (cs.take o ++ vs ++ cs.drop (o + vs.length)).toArray t)
  | [], o, cs, w, h, _ => by simpa [World.setCells] using h
  | v :: r, o, cs, w, h, hle => by
    simp only [List.length_cons] at hle
    have h1 : (w.setCell ⟨b, o, none⟩ v).heap[b]? = some (.cells (cs.set o v).toArray t) := by
      simp [World.setCell, Array.getElem?_modify, h]
    have := block_setCells (w := w) (b := b) (t := t) r (o + 1) (cs.set o v) _ h1 (by simp; omega)
    simp only [World.setCells]
    rw [this]
    have e : (cs.set o v).take (o + 1) ++ r ++ (cs.set o v).drop (o + 1 + r.length) = cs.take o ++ (v :: r) ++ cs.drop (o + (r.length + 1)) := by
      rw [List.drop_set_of_lt (by omega), List.take_add_one]
      simp [List.take_set_of_le, show o < cs.length by omega, Nat.add_assoc, Nat.add_comm]
      omega
    rw [e]; rfl
theorem drop72 (A B C : List Value) (hA : A.length = 8) (hB : B.length = 64) : (A ++ (B ++ C)).drop (8 + 64) = C := by
  rw [← List.append_assoc, List.drop_left' (by simp [hA, hB])]
theorem set72 (A B : List Value) (x y z : Value) (hA : A.length = 8) (hB : B.length = 64) : (A ++ (B ++ [x, y])).set 72 z = A ++ (B ++ [z, y]) := by
  rw [List.set_append, if_neg (by omega), List.set_append, if_neg (by omega), hA, hB]; rfl
theorem set73 (A B : List Value) (x y z : Value) (hA : A.length = 8) (hB : B.length = 64) : (A ++ (B ++ [x, y])).set 73 z = A ++ (B ++ [x, z]) := by
  rw [List.set_append, if_neg (by omega), List.set_append, if_neg (by omega), hA, hB]; rfl
theorem FAt.setWords {w : World} {b : Nat} {f : Fol} (h : FAt w b f) (ok : f.ok) (h' : List UInt32) (hh : h'.length = 8) : FAt (w.setCells b 0 (arr h').toList) b { f with h := h' } := by
  have := block_setCells (w := w) (arr h').toList 0 (folC f) w h (by simp [arr, hh, folC_length ok])
  unfold FAt
  rw [this]
  congr 3
  have e : (arr h').toList = h'.map U := by simp [arr]
  rw [e]
  simp [folC, hh, ok.1]
theorem FAt.setPiece {w : World} {b : Nat} {f : Fol} (h : FAt w b f) (ok : f.ok) (p' : List UInt8) (hp : p'.length = 64) : FAt (w.setCells b 8 (barr p').toList) b { f with p := p' } := by
  have := block_setCells (w := w) (barr p').toList 8 (folC f) w h (by simp [barr, hp, folC_length ok])
  unfold FAt
  rw [this]
  congr 3
  have e : (barr p').toList = p'.map Y := by simp [barr]
  have l1 : (f.h.map U).length = 8 := by simp [ok.1]
  have l2 : (f.p.map Y).length = 64 := by simp [ok.2.1]
  rw [e]
  simp only [folC, List.length_map, hp]
  rw [List.take_left' l1, drop72 _ _ _ l1 l2, List.append_assoc]
theorem FAt.setHeld {w : World} {b : Nat} {f : Fol} (h : FAt w b f) (ok : f.ok) (k : Nat) : FAt (w.setCell ⟨b, 72, none⟩ (.int .i64 (k : Int))) b { f with held := k } := by
  have l1 : (f.h.map U).length = 8 := by simp [ok.1]
  have l2 : (f.p.map Y).length = 64 := by simp [ok.2.1]
  unfold FAt at *
  simp only [World.setCell, Array.getElem?_modify, if_true, h, Option.map_some]
  congr 2
  simp only [folC, List.setIfInBounds_toArray, Option.isSome_none, Bool.false_eq_true, if_false]
  rw [set72 _ _ _ _ _ l1 l2]
theorem FAt.setN {w : World} {b : Nat} {f : Fol} (h : FAt w b f) (ok : f.ok) (k : Nat) : FAt (w.setCell ⟨b, 73, none⟩ (.int .u64 (k : Int))) b { f with n := k } := by
  have l1 : (f.h.map U).length = 8 := by simp [ok.1]
  have l2 : (f.p.map Y).length = 64 := by simp [ok.2.1]
  unfold FAt at *
  simp only [World.setCell, Array.getElem?_modify, if_true, h, Option.map_some]
  congr 2
  simp only [folC, List.setIfInBounds_toArray, Option.isSome_none, Bool.false_eq_true, if_false]
  rw [set73 _ _ _ _ _ l1 l2]

/-- The folder behind a press. -/
def pressF (f : Fol) (last : Bool) : Fol := { h := pressL f.h (wordsL f.p) f.n last, p := List.replicate 64 0, held := 0, n := f.n }
theorem pressF_ok {f : Fol} (ok : f.ok) (last : Bool) : (pressF f last).ok := ⟨by rw [pressF, pressL_length]; exact ok.1, by simp [pressF], by simp [pressF], ok.2.2.2⟩
theorem size57 : (Tryz.prog.info? 134).map (·.size) = some 64 := by kernel_rfl
theorem barr_one (l : List UInt8) : (barr l).all (·.oneCell') = true := all_oneCell_toArray (fun v hv => by obtain ⟨x, _, rfl⟩ := List.mem_map.1 hv; rfl)
theorem z64 : barr (List.replicate 64 0) = Array.replicate 64 (.int .u8 0) := by kernel_rfl
end Go.Proofs.YtkcnpcjogfhkbaaGreatDoor.F
namespace Go.Proofs.YtkcnpcjogfhkbaaGreatDoor.F
open Go.RowKit

set_option maxRecDepth 100000 in
set_option maxHeartbeats 1000000 in
theorem folPress_any (b : Nat) (f : Fol) (ok : f.ok) (last : Bool) (w : World) (hF : FAt w b f) (hb2 : 4 < b) (hT : Tabs w) (hS : Starts w) :
    Calls Tryz.prog 116 #[.pointer (some ⟨b, 0, none⟩), .bool last] w fun e w' => e = .returned (.tuple #[]) ∧ FAt w' b (pressF f last) ∧ But b w w' := by
  have hT0 : Hid (4 < w.heap.size) := hT.size
  have hu27 := Tryz.underlying133
  have hu57 := Tryz.underlying134
  have i27 : (Tryz.prog.info? 133).map (·.size) = some (arr f.h).toList.length := by rw [size27, Array.length_toList, arr_size, ok.1]
  have i57 : (Tryz.prog.info? 134).map (·.size) = some (barr f.p).toList.length := by rw [size57, Array.length_toList, barr_size, ok.2.1]
  go_enter Tryz.func116, Tryz.ntmps116
  go_wp2_with fail
  have HS : Hid (∀ w', Below w.heap.size w w' → (w'.rangeAt b 8 (barr f.p).toList ∧ w'.cell? ⟨b, 73, none⟩ = some (.int .u64 (f.n : Int)))) := fun w' h => ⟨(hF.of_below h hF.lt).piece ok, (hF.of_below h hF.lt).n ok⟩
  have HW : Hid (∀ w', Below w.heap.size w w' → w'.rangeAt b 0 (arr f.h).toList) := fun w' h => (hF.of_below h hF.lt).words ok
  have b0 : Hid (Below w.heap.size w w.drew) := (Below.refl _ _).drew
  refine wp_region_held_drew (S := fun w' => w'.rangeAt b 8 (barr f.p).toList ∧ w'.cell? ⟨b, 73, none⟩ = some (.int .u64 (f.n : Int))) (by kernel_rfl) (HS.out _ b0.out) (fun hHeld => ?_)
  refine wpAnyH_take (i := 0) (v := .pointer (some ⟨b, 0, none⟩)) rfl (by kernel_rfl) (by kernel_rfl) (by kernel_rfl) (fun _ _ _ h => h) (Or.inl ⟨by rfl, ?_⟩) hHeld ?_
  · intro w _; go_simp
  simp only [Act.put, List.getElem_toArray, List.getElem_cons_succ, List.getElem_cons_zero, List.setIfInBounds_toArray, List.set_cons_zero, List.set_cons_succ, Array.toArray_toList]
  refine wpAnyH_take (i := 1) (v := .pointer (some ⟨b, 0, none⟩)) rfl (by kernel_rfl) (by kernel_rfl) (by kernel_rfl) (fun _ _ _ h => h) (Or.inl ⟨by rfl, ?_⟩) hHeld ?_
  · intro w _; go_simp
  simp only [Act.put, List.getElem_toArray, List.getElem_cons_succ, List.getElem_cons_zero, List.setIfInBounds_toArray, List.set_cons_zero, List.set_cons_succ, Array.toArray_toList]
  refine wpAnyH_take (i := 2) (v := .pointer (some ⟨b, 0, none⟩)) rfl (by kernel_rfl) (by kernel_rfl) (by kernel_rfl) (fun _ _ _ h => h) (Or.inl ⟨by rfl, ?_⟩) hHeld ?_
  · intro w _; go_simp
  simp only [Act.put, List.getElem_toArray, List.getElem_cons_succ, List.getElem_cons_zero, List.setIfInBounds_toArray, List.set_cons_zero, List.set_cons_succ, Array.toArray_toList]
  refine wpAnyH_take (i := 3) (v := .pointer (some ⟨b, 0, none⟩)) rfl (by kernel_rfl) (by kernel_rfl) (by kernel_rfl) (fun _ _ _ h => h) (Or.inl ⟨by rfl, ?_⟩) hHeld ?_
  · intro w _; go_simp
  simp only [Act.put, List.getElem_toArray, List.getElem_cons_succ, List.getElem_cons_zero, List.setIfInBounds_toArray, List.set_cons_zero, List.set_cons_succ, Array.toArray_toList]
  refine wpAnyH_take (i := 5) (v := .pointer (some ⟨b, 0, none⟩)) rfl (by kernel_rfl) (by kernel_rfl) (by kernel_rfl) (fun _ _ _ h => h) (Or.inl ⟨by rfl, ?_⟩) hHeld ?_
  · intro w _; go_simp
  simp only [Act.put, List.getElem_toArray, List.getElem_cons_succ, List.getElem_cons_zero, List.setIfInBounds_toArray, List.set_cons_zero, List.set_cons_succ, Array.toArray_toList]
  refine wpAnyH_take (i := 6) (v := .pointer (some ⟨b, 0, none⟩)) rfl (by kernel_rfl) (by kernel_rfl) (by kernel_rfl) (fun _ _ _ h => h) (Or.inl ⟨by rfl, ?_⟩) hHeld ?_
  · intro w _; go_simp
  simp only [Act.put, List.getElem_toArray, List.getElem_cons_succ, List.getElem_cons_zero, List.setIfInBounds_toArray, List.set_cons_zero, List.set_cons_succ, Array.toArray_toList]
  refine wpAnyH_take (i := 7) (v := .pointer (some ⟨b, 8, none⟩)) rfl (by kernel_rfl) (by kernel_rfl) (by kernel_rfl) (fun _ _ _ h => h) (Or.inl ⟨by rfl, ?_⟩) hHeld ?_
  · intro w _; go_simp
  simp only [Act.put, List.getElem_toArray, List.getElem_cons_succ, List.getElem_cons_zero, List.setIfInBounds_toArray, List.set_cons_zero, List.set_cons_succ, Array.toArray_toList]
  refine wpAnyH_take (i := 10) (v := .pointer (some ⟨b, 0, none⟩)) rfl (by kernel_rfl) (by kernel_rfl) (by kernel_rfl) (fun _ _ _ h => h) (Or.inl ⟨by rfl, ?_⟩) hHeld ?_
  · intro w _; go_simp
  simp only [Act.put, List.getElem_toArray, List.getElem_cons_succ, List.getElem_cons_zero, List.setIfInBounds_toArray, List.set_cons_zero, List.set_cons_succ, Array.toArray_toList]
  refine wpAnyH_take (i := 11) (v := .pointer (some ⟨b, 0, none⟩)) rfl (by kernel_rfl) (by kernel_rfl) (by kernel_rfl) (fun _ _ _ h => h) (Or.inl ⟨by rfl, ?_⟩) hHeld ?_
  · intro w _; go_simp
  simp only [Act.put, List.getElem_toArray, List.getElem_cons_succ, List.getElem_cons_zero, List.setIfInBounds_toArray, List.set_cons_zero, List.set_cons_succ, Array.toArray_toList]
  refine wpAnyH_take (i := 12) (v := .pointer (some ⟨b, 73, none⟩)) rfl (by kernel_rfl) (by kernel_rfl) (by kernel_rfl) (fun _ _ _ h => h) (Or.inl ⟨by rfl, ?_⟩) hHeld ?_
  · intro w _; go_simp
  simp only [Act.put, List.getElem_toArray, List.getElem_cons_succ, List.getElem_cons_zero, List.setIfInBounds_toArray, List.set_cons_zero, List.set_cons_succ, Array.toArray_toList]
  refine wpAnyH_take (i := 14) (v := .bool last) rfl (by kernel_rfl) (by kernel_rfl) (by kernel_rfl) (fun _ _ _ h => h) (Or.inl ⟨by rfl, ?_⟩) hHeld ?_
  · intro w _; go_simp
  simp only [Act.put, List.getElem_toArray, List.getElem_cons_succ, List.getElem_cons_zero, List.setIfInBounds_toArray, List.set_cons_zero, List.set_cons_succ, Array.toArray_toList]
  refine wpAnyH_take (i := 8) rfl (by kernel_rfl) (by kernel_rfl) (by kernel_rfl) (fun _ _ _ h => h) (yieldsIf_load_mid (by rfl) 134 (.tmp 11) rfl _ 8 rfl (barr f.p).toList _ (fun _ h => h.1) hu57 rfl i57) hHeld ?_
  simp only [Act.put, List.getElem_toArray, List.getElem_cons_succ, List.getElem_cons_zero, List.setIfInBounds_toArray, List.set_cons_zero, List.set_cons_succ, Array.toArray_toList]
  refine wpAnyH_take (i := 13) (v := .int .u64 (f.n : Int)) rfl (by kernel_rfl) (by kernel_rfl) (by kernel_rfl) (fun _ _ _ h => h) (Or.inl ⟨by rfl, ?_⟩) hHeld ?_
  · intro w' hS'; obtain ⟨_, hc⟩ := hS'; go_simp
  simp only [Act.put, List.getElem_toArray, List.getElem_cons_succ, List.getElem_cons_zero, List.setIfInBounds_toArray, List.set_cons_zero, List.set_cons_succ, Array.toArray_toList]
  refine wpAnyH_ready (rs := [4, 9]) (by kernel_rfl) (by simp) ?_
  refine AllReadyH.cons rfl (fun K hK => ?_) (AllReadyH.cons rfl (fun K hK => ?_) AllReadyH.nil)
  · rw [if_pos (by rfl)]
    refine wp_load_mid 133 (.tmp 7) rfl b 0 rfl (arr f.h).toList _ (HW.out _ b0.out) hu27 rfl i27 ?_
    simp only [Act.put, List.getElem_toArray, List.getElem_cons_succ, List.getElem_cons_zero, List.setIfInBounds_toArray, List.set_cons_zero, List.set_cons_succ, Array.toArray_toList]
    refine hK.out _ _ (HS.out _ b0.out) (fun hHeld2 => ?_)
    clear hK K
    try simp only [Act.put, List.getElem_toArray, List.getElem_cons_succ, List.getElem_cons_zero, List.setIfInBounds_toArray, List.set_cons_zero, List.set_cons_succ, Array.toArray_toList]
    refine wpAnyH_ready (rs := [9]) (by kernel_rfl) (by simp) ?_
    refine AllReadyH.cons rfl (fun K hK => ?_) AllReadyH.nil
    go_simp
    refine (words_any f.p ok.2.1 _).mono ?_
    rintro e wa ⟨rfl, hbx⟩
    have b1 : Hid (Below w.heap.size w wa) := b0.out.trans (hbx.mono b0.out.size)
    clear hbx
    go_wp2_with fail
    refine hK.out _ _ (HS.out _ b1.out) (fun hHeld3 => ?_)
    clear hK K
    try simp only [Act.put, List.getElem_toArray, List.getElem_cons_succ, List.getElem_cons_zero, List.setIfInBounds_toArray, List.set_cons_zero, List.set_cons_succ, Array.toArray_toList]
    refine wpAnyH_ready (rs := [15]) (by kernel_rfl) (by simp) ?_
    refine AllReadyH.cons rfl (fun K hK => ?_) AllReadyH.nil
    go_simp
    refine (press_any f.h (wordsL f.p) ok.1 (wordsL_length _) f.n ok.2.2.2 last _ (hT.of_below b1.out hT0.out) (hS.of_below b1.out hT0.out)).mono ?_
    rintro e wp ⟨rfl, hbx⟩
    have b9 : Hid (Below w.heap.size w wp) := b1.out.trans (hbx.mono b1.out.size)
    clear hbx
    go_wp2_with fail
    refine hK.out _ _ (HS.out _ b9.out) (fun hHeld9 => ?_)
    clear hK K
    try simp only [Act.put, List.getElem_toArray, List.getElem_cons_succ, List.getElem_cons_zero, List.setIfInBounds_toArray, List.set_cons_zero, List.set_cons_succ, Array.toArray_toList]
    have hP : (pressL f.h (wordsL f.p) f.n last).length = 8 := by rw [pressL_length, ok.1]
    have hPe : Hid (pressF f last = { h := pressL f.h (wordsL f.p) f.n last, p := List.replicate 64 0, held := 0, n := f.n }) := rfl
    have hF9 := hF.of_below b9.out hF.lt
    generalize pressL f.h (wordsL f.p) f.n last = H' at *
    refine wpAnyH_take (i := 16) (v := .pointer (some ⟨b, 0, none⟩)) rfl (by kernel_rfl) (by kernel_rfl) (by kernel_rfl) (fun _ _ _ h => h) (Or.inl ⟨by rfl, ?_⟩) hHeld9 ?_
    · intro w _; go_simp
    simp only [Act.put, List.getElem_toArray, List.getElem_cons_succ, List.getElem_cons_zero, List.setIfInBounds_toArray, List.set_cons_zero, List.set_cons_succ, Array.toArray_toList]
    refine wpAnyH_take (i := 17) (v := .pointer (some ⟨b, 0, none⟩)) rfl (by kernel_rfl) (by kernel_rfl) (by kernel_rfl) (fun _ _ _ h => h) (Or.inl ⟨by rfl, ?_⟩) hHeld9 ?_
    · intro w _; go_simp
    simp only [Act.put, List.getElem_toArray, List.getElem_cons_succ, List.getElem_cons_zero, List.setIfInBounds_toArray, List.set_cons_zero, List.set_cons_succ, Array.toArray_toList]
    have t9 : wp.there b 0 (arr H').size := by rw [arr_size, hP]; exact hF9.there ok 0 8 (by omega)
    have i9 : (Tryz.prog.info? 133).map (·.size) = some (arr H').size := by rw [size27, arr_size, hP]
    have ok1 : Fol.ok { f with h := H' } := ⟨hP, ok.2.1, ok.2.2.1, ok.2.2.2⟩
    have hF10 := hF9.setWords ok H' hP
    refine wpAnyH_ready (rs := [18]) (by kernel_rfl) (by simp) ?_
    refine AllReadyH.cons rfl (fun K hK => ?_) AllReadyH.nil
    rw [if_pos (by rfl)]
    refine wp_store_mid 133 (.tmp 21) (.tmp 19) rfl b 0 (arr H') rfl rfl t9 i9 (arr_one H') ?_
    try simp only [Act.put, List.getElem_toArray, List.getElem_cons_succ, List.getElem_cons_zero, List.setIfInBounds_toArray, List.set_cons_zero, List.set_cons_succ, Array.toArray_toList]
    refine hK.out _ _ ⟨hF10.piece ok1, hF10.n ok1⟩ (fun hHeld10 => ?_)
    clear hK K
    try simp only [Act.put, List.getElem_toArray, List.getElem_cons_succ, List.getElem_cons_zero, List.setIfInBounds_toArray, List.set_cons_zero, List.set_cons_succ, Array.toArray_toList]
    refine wpAnyH_done (by kernel_rfl) ?_ _
    have bX : Hid (But b w (wp.setCells b 0 (arr H').toList)) := But.setOwn _ _ _ ⟨b9.out.os, b9.out.tape, b9.out.output, b9.out.size, fun k hk _ => b9.out.block k hk⟩
    clear hHeld10 hHeld9 t9
    generalize wp.setCells b 0 (arr H').toList = X at *
    have t57 : X.there b 8 (barr (List.replicate 64 0)).size := hF10.there ok1 8 64 (by omega)
    have ok2 : Fol.ok { h := H', p := List.replicate 64 0, held := f.held, n := f.n } := ⟨hP, by simp, ok.2.2.1, ok.2.2.2⟩
    have HZ : Hid (∀ Z, X.setCells b 8 (barr (List.replicate 64 0)).toList = Z → FAt Z b { h := H', p := List.replicate 64 0, held := f.held, n := f.n } ∧ But b w Z) := fun Z hZ => by rw [← hZ]; exact ⟨hF10.setPiece ok1 _ (by simp), But.setOwn _ _ _ bX.out⟩
    have i57' : (Tryz.prog.info? 134).map (·.size) = some (barr (List.replicate 64 0)).size := by rw [size57, barr_size]; simp
    have o57 := barr_one (List.replicate 64 0)
    go_wp2_with (refine wpList_store_mid rfl 134 (.tmp 25) (.tmp 23) rfl b 8 (barr (List.replicate 64 0)) rfl rfl t57 i57' o57 ?_; generalize hZ : X.setCells b 8 (barr (List.replicate 64 0)).toList = Z; have hFZ := HZ.out _ hZ; have c72 := hFZ.1.held ok2; have f72 := hFZ.1.frozen 72; clear hZ)
    go_end0
    refine ⟨rfl, ?_, hFZ.2.setCell _ _⟩
    rw [hPe.out]
    exact hFZ.1.setHeld ok2 0
  · go_simp
    refine (words_any f.p ok.2.1 _).mono ?_
    rintro e wa ⟨rfl, hbx⟩
    have b1 : Hid (Below w.heap.size w wa) := b0.out.trans (hbx.mono b0.out.size)
    clear hbx
    go_wp2_with fail
    refine hK.out _ _ (HS.out _ b1.out) (fun hHeld2 => ?_)
    clear hK K
    try simp only [Act.put, List.getElem_toArray, List.getElem_cons_succ, List.getElem_cons_zero, List.setIfInBounds_toArray, List.set_cons_zero, List.set_cons_succ, Array.toArray_toList]
    refine wpAnyH_ready (rs := [4]) (by kernel_rfl) (by simp) ?_
    refine AllReadyH.cons rfl (fun K hK => ?_) AllReadyH.nil
    rw [if_pos (by rfl)]
    refine wp_load_mid 133 (.tmp 7) rfl b 0 rfl (arr f.h).toList _ (HW.out _ b1.out) hu27 rfl i27 ?_
    simp only [Act.put, List.getElem_toArray, List.getElem_cons_succ, List.getElem_cons_zero, List.setIfInBounds_toArray, List.set_cons_zero, List.set_cons_succ, Array.toArray_toList]
    refine hK.out _ _ (HS.out _ b1.out) (fun hHeld3 => ?_)
    clear hK K
    try simp only [Act.put, List.getElem_toArray, List.getElem_cons_succ, List.getElem_cons_zero, List.setIfInBounds_toArray, List.set_cons_zero, List.set_cons_succ, Array.toArray_toList]
    refine wpAnyH_ready (rs := [15]) (by kernel_rfl) (by simp) ?_
    refine AllReadyH.cons rfl (fun K hK => ?_) AllReadyH.nil
    go_simp
    refine (press_any f.h (wordsL f.p) ok.1 (wordsL_length _) f.n ok.2.2.2 last _ (hT.of_below b1.out hT0.out) (hS.of_below b1.out hT0.out)).mono ?_
    rintro e wp ⟨rfl, hbx⟩
    have b9 : Hid (Below w.heap.size w wp) := b1.out.trans (hbx.mono b1.out.size)
    clear hbx
    go_wp2_with fail
    refine hK.out _ _ (HS.out _ b9.out) (fun hHeld9 => ?_)
    clear hK K
    try simp only [Act.put, List.getElem_toArray, List.getElem_cons_succ, List.getElem_cons_zero, List.setIfInBounds_toArray, List.set_cons_zero, List.set_cons_succ, Array.toArray_toList]
    have hP : (pressL f.h (wordsL f.p) f.n last).length = 8 := by rw [pressL_length, ok.1]
    have hPe : Hid (pressF f last = { h := pressL f.h (wordsL f.p) f.n last, p := List.replicate 64 0, held := 0, n := f.n }) := rfl
    have hF9 := hF.of_below b9.out hF.lt
    generalize pressL f.h (wordsL f.p) f.n last = H' at *
    refine wpAnyH_take (i := 16) (v := .pointer (some ⟨b, 0, none⟩)) rfl (by kernel_rfl) (by kernel_rfl) (by kernel_rfl) (fun _ _ _ h => h) (Or.inl ⟨by rfl, ?_⟩) hHeld9 ?_
    · intro w _; go_simp
    simp only [Act.put, List.getElem_toArray, List.getElem_cons_succ, List.getElem_cons_zero, List.setIfInBounds_toArray, List.set_cons_zero, List.set_cons_succ, Array.toArray_toList]
    refine wpAnyH_take (i := 17) (v := .pointer (some ⟨b, 0, none⟩)) rfl (by kernel_rfl) (by kernel_rfl) (by kernel_rfl) (fun _ _ _ h => h) (Or.inl ⟨by rfl, ?_⟩) hHeld9 ?_
    · intro w _; go_simp
    simp only [Act.put, List.getElem_toArray, List.getElem_cons_succ, List.getElem_cons_zero, List.setIfInBounds_toArray, List.set_cons_zero, List.set_cons_succ, Array.toArray_toList]
    have t9 : wp.there b 0 (arr H').size := by rw [arr_size, hP]; exact hF9.there ok 0 8 (by omega)
    have i9 : (Tryz.prog.info? 133).map (·.size) = some (arr H').size := by rw [size27, arr_size, hP]
    have ok1 : Fol.ok { f with h := H' } := ⟨hP, ok.2.1, ok.2.2.1, ok.2.2.2⟩
    have hF10 := hF9.setWords ok H' hP
    refine wpAnyH_ready (rs := [18]) (by kernel_rfl) (by simp) ?_
    refine AllReadyH.cons rfl (fun K hK => ?_) AllReadyH.nil
    rw [if_pos (by rfl)]
    refine wp_store_mid 133 (.tmp 21) (.tmp 19) rfl b 0 (arr H') rfl rfl t9 i9 (arr_one H') ?_
    try simp only [Act.put, List.getElem_toArray, List.getElem_cons_succ, List.getElem_cons_zero, List.setIfInBounds_toArray, List.set_cons_zero, List.set_cons_succ, Array.toArray_toList]
    refine hK.out _ _ ⟨hF10.piece ok1, hF10.n ok1⟩ (fun hHeld10 => ?_)
    clear hK K
    try simp only [Act.put, List.getElem_toArray, List.getElem_cons_succ, List.getElem_cons_zero, List.setIfInBounds_toArray, List.set_cons_zero, List.set_cons_succ, Array.toArray_toList]
    refine wpAnyH_done (by kernel_rfl) ?_ _
    have bX : Hid (But b w (wp.setCells b 0 (arr H').toList)) := But.setOwn _ _ _ ⟨b9.out.os, b9.out.tape, b9.out.output, b9.out.size, fun k hk _ => b9.out.block k hk⟩
    clear hHeld10 hHeld9 t9
    generalize wp.setCells b 0 (arr H').toList = X at *
    have t57 : X.there b 8 (barr (List.replicate 64 0)).size := hF10.there ok1 8 64 (by omega)
    have ok2 : Fol.ok { h := H', p := List.replicate 64 0, held := f.held, n := f.n } := ⟨hP, by simp, ok.2.2.1, ok.2.2.2⟩
    have HZ : Hid (∀ Z, X.setCells b 8 (barr (List.replicate 64 0)).toList = Z → FAt Z b { h := H', p := List.replicate 64 0, held := f.held, n := f.n } ∧ But b w Z) := fun Z hZ => by rw [← hZ]; exact ⟨hF10.setPiece ok1 _ (by simp), But.setOwn _ _ _ bX.out⟩
    have i57' : (Tryz.prog.info? 134).map (·.size) = some (barr (List.replicate 64 0)).size := by rw [size57, barr_size]; simp
    have o57 := barr_one (List.replicate 64 0)
    go_wp2_with (refine wpList_store_mid rfl 134 (.tmp 25) (.tmp 23) rfl b 8 (barr (List.replicate 64 0)) rfl rfl t57 i57' o57 ?_; generalize hZ : X.setCells b 8 (barr (List.replicate 64 0)).toList = Z; have hFZ := HZ.out _ hZ; have c72 := hFZ.1.held ok2; have f72 := hFZ.1.frozen 72; clear hZ)
    go_end0
    refine ⟨rfl, ?_, hFZ.2.setCell _ _⟩
    rw [hPe.out]
    exact hFZ.1.setHeld ok2 0
end Go.Proofs.YtkcnpcjogfhkbaaGreatDoor.F
