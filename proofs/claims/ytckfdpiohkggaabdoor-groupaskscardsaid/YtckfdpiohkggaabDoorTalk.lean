/- The walks of a talk's functions: NewTalk, Say, Ask, Fork; and the reference's. -/
import Derived.Test.YtckfdpiohkggaabDoorParts
set_option linter.unusedSimpArgs false
set_option linter.unusedVariables false
set_option maxRecDepth 100000
namespace Go.Proofs.YtckfdpiohkggaabDoor.F
open Go.RowKit

/-- The tag of a label and parts, as a text. -/
def tagB (label : ByteArray) (ps : List ByteArray) : ByteArray := ⟨(digL (hK 0) (partsL (label :: ps))).toArray⟩
theorem tagB_size (label : ByteArray) (ps : List ByteArray) : (tagB label ps).size = 32 := by
  show (digL (hK 0) (partsL (label :: ps))).toArray.size = 32
  rw [List.size_toArray, digL_length]
/-- A talk lies in block b. -/
def TAt (w : World) (b : Nat) (s : ByteArray) : Prop := w.heap[b]? = some (.cells #[.string s] 48)
theorem TAt.lt {w : World} {b : Nat} {s : ByteArray} (h : TAt w b s) : b < w.heap.size := (Array.getElem?_eq_some_iff.1 h).1
theorem TAt.cell {w : World} {b : Nat} {s : ByteArray} (h : TAt w b s) : w.cell? ⟨b, 0, none⟩ = some (.string s) := by
  unfold TAt at h
  simp [World.cell?, h]
theorem TAt.frozen {w : World} {b : Nat} {s : ByteArray} (h : TAt w b s) : w.frozen? ⟨b, 0, none⟩ = false := by
  unfold TAt at h
  simp [World.frozen?, h]
theorem TAt.of_below {w w' : World} {b B : Nat} {s : ByteArray} (h : TAt w b s) (hb : Below B w w') (hB : b < B) : TAt w' b s := by
  unfold TAt; rw [hb.block b hB]; exact h
theorem TAt.of_but {w w' : World} {b g : Nat} {s : ByteArray} (h : TAt w b s) (hb : But g w w') (hg : b ≠ g) : TAt w' b s := by
  unfold TAt; rw [hb.block b h.lt hg]; exact h
theorem TAt.alloc {w : World} {b : Nat} {s : ByteArray} (h : TAt w b s) (o : Obj) : TAt (w.alloc o) b s := by
  unfold TAt; rw [Below.heap_alloc _ _ _ h.lt]; exact h
theorem TAt.new (w : World) (s : ByteArray) : TAt (w.alloc (.cells #[.string s] 48)) w.heap.size s := by
  show (w.heap.push _)[w.heap.size]? = _
  simp
theorem TAt.set {w : World} {b : Nat} {s : ByteArray} (h : TAt w b s) (t : ByteArray) : TAt (w.setCell ⟨b, 0, none⟩ (.string t)) b t := by
  unfold TAt at *
  simp [World.setCell, Array.getElem?_modify, h]
abbrev talkB : ByteArray := ⟨#[116, 97, 108, 107]⟩
abbrev sayB : ByteArray := ⟨#[115, 97, 121]⟩
abbrev askB : ByteArray := ⟨#[97, 115, 107]⟩
abbrev askedB : ByteArray := ⟨#[97, 115, 107, 101, 100]⟩

/-- tag of parts that were just laid. -/
theorem tag_new (label : ByteArray) (ps : List ByteArray) (w : World) (hl : ps.length < 1000) (hll : label.size < 1125899906842624) (hsz : ∀ i (h : i < ps.length), ps[i].size < 1125899906842624)
    (hn : (partsL (label :: ps)).length < 4611686018427387904) (hT : Tabs w) (hS : Starts w) :
    Calls Tryd.prog 15 #[.string label, .slice (some ⟨w.heap.size, 0, none⟩) ps.length ps.length] (w.alloc (.cells (ps.map Value.string).toArray 9)) fun e w' => e = .returned (.string (tagB label ps)) ∧ Below w.heap.size w w' := by
  have hb := (Below.refl w.heap.size w).alloc (Nat.le_refl _) (.cells (ps.map Value.string).toArray 9)
  refine (tag_any label (some ⟨w.heap.size, 0, none⟩) ps.length ps (w.alloc (.cells (ps.map Value.string).toArray 9)) (SAt.new w ps 9) (by omega) (by omega) (fun i h => by have := hsz i h; omega) (by omega) (hT.of_below hb hT.size) (hS.of_below hb hT.size)).mono ?_
  rintro e w' ⟨rfl, h⟩
  exact ⟨rfl, hb.trans (h.mono (by simp))⟩
theorem refTag_new (label : ByteArray) (ps : List ByteArray) (w : World) (hl : ps.length < 1000) (hll : label.size < 1125899906842624) (hsz : ∀ i (h : i < ps.length), ps[i].size < 1125899906842624)
    (hn : (partsL (label :: ps)).length < 4611686018427387904) :
    Calls Tryd.prog 16 #[.string label, .slice (some ⟨w.heap.size, 0, none⟩) ps.length ps.length] (w.alloc (.cells (ps.map Value.string).toArray 9)) fun e w' => e = .returned (.string (tagB label ps)) ∧ Below w.heap.size w w' := by
  have hb := (Below.refl w.heap.size w).alloc (Nat.le_refl _) (.cells (ps.map Value.string).toArray 9)
  refine (refTag_any label (some ⟨w.heap.size, 0, none⟩) ps.length ps (w.alloc (.cells (ps.map Value.string).toArray 9)) (SAt.new w ps 9) (by omega) (by omega) (fun i h => by have := hsz i h; omega) hn).mono ?_
  rintro e w' ⟨rfl, h⟩
  exact ⟨rfl, hb.trans (h.mono (by simp))⟩
theorem parts2 (a b : ByteArray) : (partsL [a, b]).length = 8 + a.size + b.size := by
  simp only [partsL, List.flatMap_cons, List.flatMap_nil, List.length_append, fourL_length, List.length_nil, ← Lib.size_eq]; omega
theorem parts3 (a b c : ByteArray) : (partsL [a, b, c]).length = 12 + a.size + b.size + c.size := by
  simp only [partsL, List.flatMap_cons, List.flatMap_nil, List.length_append, fourL_length, List.length_nil, ← Lib.size_eq]; omega
theorem parts4 (a b c d : ByteArray) : (partsL [a, b, c, d]).length = 16 + a.size + b.size + c.size + d.size := by
  simp only [partsL, List.flatMap_cons, List.flatMap_nil, List.length_append, fourL_length, List.length_nil, ← Lib.size_eq]; omega
theorem each1 {a : ByteArray} (ha : a.size < 1125899906842624) : ∀ i (h : i < [a].length), [a][i].size < 1125899906842624 := by
  intro i hi
  obtain rfl : i = 0 := by simpa using hi
  exact ha
theorem each2 {a b : ByteArray} (ha : a.size < 1125899906842624) (hb : b.size < 1125899906842624) : ∀ i (h : i < [a, b].length), [a, b][i].size < 1125899906842624 := by
  intro i hi
  have hi' : i < 2 := hi
  obtain rfl | rfl : i = 0 ∨ i = 1 := by omega
  · exact ha
  · exact hb
theorem each3 {a b c : ByteArray} (ha : a.size < 1125899906842624) (hb : b.size < 1125899906842624) (hc : c.size < 1125899906842624) : ∀ i (h : i < [a, b, c].length), [a, b, c][i].size < 1125899906842624 := by
  intro i hi
  have hi' : i < 3 := hi
  obtain rfl | rfl | rfl : i = 0 ∨ i = 1 ∨ i = 2 := by omega
  · exact ha
  · exact hb
  · exact hc

set_option maxRecDepth 100000 in
set_option maxHeartbeats 400000 in
theorem newTalk_any (label : ByteArray) (hl : label.size < 1125899906842624) (w : World) (hT : Tabs w) (hS : Starts w) :
    Calls Tryd.prog 4 #[.string label] w fun e w' => (∃ b, e = .returned (.pointer (some ⟨b, 0, none⟩)) ∧ w.heap.size ≤ b ∧ TAt w' b (tagB talkB [label])) ∧ Below w.heap.size w w' := by
  go_enter Tryd.func4, Tryd.ntmps4
  go_wp2_with fail
  refine (tag_new talkB [label] w (by simp) (by decide) (each1 hl) (by rw [parts2]; have : talkB.size = 4 := rfl; omega) hT hS).mono ?_
  rintro e X ⟨rfl, hb⟩
  have HB : Hid (Below w.heap.size w X) := hb
  generalize hSd : tagB talkB [label] = S at *
  have HSd : Hid (tagB talkB [label] = S) := hSd
  clear hSd
  clear hb
  go_wp2_with fail
  go_ret
  exact ⟨⟨X.heap.size, rfl, HB.out.size, by rw [HSd.out]; exact TAt.new X S⟩, HB.out.alloc HB.out.size _⟩
set_option maxRecDepth 100000 in
set_option maxHeartbeats 400000 in
theorem say_any (tb : Nat) (s label t : ByteArray) (hs : s.size = 32) (hl : label.size < 1125899906842624) (ht : t.size < 1125899906842624) (w : World) (hA : TAt w tb s) (h2 : 2 < tb) (hT : Tabs w) (hS : Starts w) :
    Calls Tryd.prog 6 #[.pointer (some ⟨tb, 0, none⟩), .string label, .string t] w fun e w' => e = .returned (.tuple #[]) ∧ TAt w' tb (tagB sayB [s, label, t]) ∧ But tb w w' := by
  have c0 := hA.cell
  go_enter Tryd.func6, Tryd.ntmps6
  go_wp2_with fail
  refine (tag_new sayB [s, label, t] w (by simp) (by decide) (each3 (by omega) hl ht) (by rw [parts4]; have : sayB.size = 3 := rfl; omega) hT hS).mono ?_
  rintro e X ⟨rfl, hb⟩
  have A1 := hA.of_below hb hA.lt
  have HB : Hid (But tb w X) := (But.refl tb w).of_below hb
  have c1 := A1.cell
  have f1 := A1.frozen
  generalize hSd : tagB sayB [s, label, t] = S at *
  have HSd : Hid (tagB sayB [s, label, t] = S) := hSd
  clear hSd
  clear hb c0
  go_wp2_with fail
  go_end0
  exact ⟨rfl, by rw [HSd.out]; exact A1.set S, HB.out.setCell _ _⟩
set_option maxRecDepth 100000 in
set_option maxHeartbeats 400000 in
theorem ask_any (tb : Nat) (s label : ByteArray) (hs : s.size = 32) (hl : label.size < 1125899906842624) (w : World) (hA : TAt w tb s) (h2 : 2 < tb) (hT : Tabs w) (hS : Starts w) :
    Calls Tryd.prog 12 #[.pointer (some ⟨tb, 0, none⟩), .string label] w fun e w' => e = .returned (.string (tagB askB [s, label])) ∧ TAt w' tb (tagB askedB [s, label]) ∧ But tb w w' := by
  have c0 := hA.cell
  have hT0 : Hid (2 < w.heap.size) := hT.size
  go_enter Tryd.func12, Tryd.ntmps12
  go_wp2_with fail
  refine (tag_new askB [s, label] w (by simp) (by decide) (each2 (by omega) hl) (by rw [parts3]; have : askB.size = 3 := rfl; omega) hT hS).mono ?_
  rintro e X ⟨rfl, hb⟩
  have A1 := hA.of_below hb hA.lt
  have HB : Hid (Below w.heap.size w X) := hb
  have c1 := A1.cell
  generalize hQ : tagB askB [s, label] = Q at *
  have HQ : Hid (tagB askB [s, label] = Q) := hQ
  clear hQ hb c0
  go_wp2_with fail
  refine (tag_new askedB [s, label] X (by simp) (by decide) (each2 (by omega) hl) (by rw [parts3]; have : askedB.size = 5 := rfl; omega) (hT.of_below HB.out hT0.out) (hS.of_below HB.out hT0.out)).mono ?_
  rintro e Z ⟨rfl, hb2⟩
  have A2 := A1.of_below hb2 A1.lt
  have HB2 : Hid (But tb w Z) := ((But.refl tb w).of_below HB.out).of_below hb2
  have c2 := A2.cell
  have f2 := A2.frozen
  generalize hSd : tagB askedB [s, label] = S at *
  have HSd : Hid (tagB askedB [s, label] = S) := hSd
  clear hSd
  clear hb2 c1
  go_wp2_with fail
  go_ret
  exact ⟨by rw [HQ.out]; rfl, by rw [HSd.out]; exact A2.set S, HB2.out.setCell _ _⟩
/-- A one-cell block of the reference's. -/
def RAt (w : World) (b : Nat) (s : ByteArray) : Prop := w.heap[b]? = some (.cells #[.string s] 26)
theorem RAt.lt {w : World} {b : Nat} {s : ByteArray} (h : RAt w b s) : b < w.heap.size := (Array.getElem?_eq_some_iff.1 h).1
theorem RAt.cell {w : World} {b : Nat} {s : ByteArray} (h : RAt w b s) : w.cell? ⟨b, 0, none⟩ = some (.string s) := by
  unfold RAt at h
  simp [World.cell?, h]
theorem RAt.frozen {w : World} {b : Nat} {s : ByteArray} (h : RAt w b s) : w.frozen? ⟨b, 0, none⟩ = false := by
  unfold RAt at h
  simp [World.frozen?, h]
theorem RAt.of_below {w w' : World} {b B : Nat} {s : ByteArray} (h : RAt w b s) (hb : Below B w w') (hB : b < B) : RAt w' b s := by
  unfold RAt; rw [hb.block b hB]; exact h
theorem RAt.alloc {w : World} {b : Nat} {s : ByteArray} (h : RAt w b s) (o : Obj) : RAt (w.alloc o) b s := by
  unfold RAt; rw [Below.heap_alloc _ _ _ h.lt]; exact h
theorem RAt.new (w : World) (s : ByteArray) : RAt (w.alloc (.cells #[.string s] 26)) w.heap.size s := by
  show (w.heap.push _)[w.heap.size]? = _
  simp
theorem RAt.set {w : World} {b : Nat} {s : ByteArray} (h : RAt w b s) (t : ByteArray) : RAt (w.setCell ⟨b, 0, none⟩ (.string t)) b t := by
  unfold RAt at *
  simp [World.setCell, Array.getElem?_modify, h]
theorem RAt.range {w : World} {b : Nat} {s : ByteArray} (h : RAt w b s) : w.rangeAt b 0 [.string s] := by
  intro j v hv
  have hj : j < 1 := (List.getElem?_eq_some_iff.1 hv).1
  obtain rfl : j = 0 := by omega
  rw [Nat.zero_add, h.cell]
  exact hv
theorem RAt.of_but {w w' : World} {b g : Nat} {s : ByteArray} (h : RAt w b s) (hb : But g w w') (hg : b ≠ g) : RAt w' b s := by
  unfold RAt; rw [hb.block b h.lt hg]; exact h
theorem results_tmp_cell {P : Program} {fn : Func} {t p : Tmp} {ty : TypeId} (h : fn.results = #[.tmp t, .cell p ty]) (tmps : Array Value) (w : World) (b o : Nat) (cs : List Value) (d : TypeDesc)
    (hp : tmps.getD p undef = .pointer (some ⟨b, o, none⟩)) (hc : w.rangeAt b o cs) (hu : P.underlying ty = some d) (hd : d.isRow = true) (hi : (P.info? ty).map (·.size) = some cs.length) :
    (results fn tmps).run P w = .ok (.tuple #[tmps.getD t undef, .agg cs.toArray]) w := by
  have := run_loadVar_mid w b o ty cs d hc hu hd hi
  rw [Array.getD_eq_getD_getElem?] at hp
  simp only [results, h]
  simp [Sem.run_bind, hp, asAddr, this]
theorem size31 : (Tryd.prog.info? 26).map (·.size) = some 1 := by kernel_rfl
set_option maxRecDepth 100000 in
set_option maxHeartbeats 400000 in
theorem refNewTalk_any (label : ByteArray) (hl : label.size < 1125899906842624) (w : World) :
    Calls Tryd.prog 5 #[.string label] w fun e w' => e = .returned (.agg #[.string (tagB talkB [label])]) ∧ Below w.heap.size w w' := by
  go_enter Tryd.func5, Tryd.ntmps5
  go_wp2_with fail
  have r0 := RAt.new w ⟨#[]⟩
  have HB0 : Hid (Below w.heap.size w (w.alloc (Obj.cells #[Value.string ⟨#[]⟩] 26))) := (Below.refl _ w).alloc (Nat.le_refl _) _
  have hc := refTag_new talkB [label] (w.alloc (Obj.cells #[Value.string ⟨#[]⟩] 26)) (by simp) (by decide) (each1 hl) (by rw [parts2]; have : talkB.size = 4 := rfl; omega)
  rw [World.size_alloc] at hc
  refine hc.mono ?_
  rintro e X ⟨rfl, hb⟩
  have r1 : RAt X w.heap.size ⟨#[]⟩ := r0.of_below hb (by omega)
  have HB : Hid (Below w.heap.size w X) := HB0.out.trans (hb.mono (by omega))
  have c1 := r1.cell
  have f1 := r1.frozen
  generalize hSd : tagB talkB [label] = S at *
  have HSd : Hid (tagB talkB [label] = S) := hSd
  clear hSd hb hc r0
  go_wp2_with fail
  refine bodyPost_ret (v := .agg #[.string S]) (results_cell Tryd.results5 _ _ w.heap.size 0 [.string S] _ rfl (r1.set S).range Tryd.underlying26 rfl size31) rfl ⟨by rw [HSd.out], Below.own HB.out (Nat.le_refl _) _ _⟩
set_option maxRecDepth 100000 in
set_option maxHeartbeats 400000 in
theorem refSay_any (s label t : ByteArray) (hs : s.size = 32) (hl : label.size < 1125899906842624) (ht : t.size < 1125899906842624) (w : World) :
    Calls Tryd.prog 7 #[.agg #[.string s], .string label, .string t] w fun e w' => e = .returned (.agg #[.string (tagB sayB [s, label, t])]) ∧ Below w.heap.size w w' := by
  go_enter Tryd.func7, Tryd.ntmps7
  go_wp2_with fail
  have r0 := RAt.new (w.alloc (Obj.cells #[Value.string s] 26)) ⟨#[]⟩
  have HB0 : Hid (Below w.heap.size w ((w.alloc (Obj.cells #[Value.string s] 26)).alloc (Obj.cells #[Value.string ⟨#[]⟩] 26))) := ((Below.refl _ w).alloc (Nat.le_refl _) _).alloc (by simp) _
  have hc := refTag_new sayB [s, label, t] ((w.alloc (Obj.cells #[Value.string s] 26)).alloc (Obj.cells #[Value.string ⟨#[]⟩] 26)) (by simp) (by decide) (each3 (by omega) hl ht) (by rw [parts4]; have : sayB.size = 3 := rfl; omega)
  rw [World.size_alloc, World.size_alloc] at hc
  rw [World.size_alloc] at r0
  refine hc.mono ?_
  rintro e X ⟨rfl, hb⟩
  have r1 : RAt X (w.heap.size + 1) ⟨#[]⟩ := r0.of_below hb (by omega)
  have HB : Hid (Below w.heap.size w X) := HB0.out.trans (hb.mono (by omega))
  have c1 := r1.cell
  have f1 := r1.frozen
  generalize hSd : tagB sayB [s, label, t] = S at *
  have HSd : Hid (tagB sayB [s, label, t] = S) := hSd
  clear hSd hb hc r0
  go_wp2_with fail
  refine bodyPost_ret (v := .agg #[.string S]) (results_cell Tryd.results7 _ _ (w.heap.size + 1) 0 [.string S] _ rfl (r1.set S).range Tryd.underlying26 rfl size31) rfl ⟨by rw [HSd.out], Below.own HB.out (by omega) _ _⟩
set_option maxRecDepth 100000 in
set_option maxHeartbeats 400000 in
theorem refAsk_any (s label : ByteArray) (hs : s.size = 32) (hl : label.size < 1125899906842624) (w : World) :
    Calls Tryd.prog 10 #[.agg #[.string s], .string label] w fun e w' => e = .returned (.tuple #[.string (tagB askB [s, label]), .agg #[.string (tagB askedB [s, label])]]) ∧ Below w.heap.size w w' := by
  go_enter Tryd.func10, Tryd.ntmps10
  go_wp2_with fail
  have r00 := RAt.new w s
  have r50 := RAt.new (w.alloc (Obj.cells #[Value.string s] 26)) ⟨#[]⟩
  rw [World.size_alloc] at r50
  have HB0 : Hid (Below w.heap.size w ((w.alloc (Obj.cells #[Value.string s] 26)).alloc (Obj.cells #[Value.string ⟨#[]⟩] 26))) := ((Below.refl _ w).alloc (Nat.le_refl _) _).alloc (by simp) _
  have r0 : Hid (RAt ((w.alloc (Obj.cells #[Value.string s] 26)).alloc (Obj.cells #[Value.string ⟨#[]⟩] 26)) w.heap.size s) := r00.alloc _
  have r5 : Hid (RAt ((w.alloc (Obj.cells #[Value.string s] 26)).alloc (Obj.cells #[Value.string ⟨#[]⟩] 26)) (w.heap.size + 1) ⟨#[]⟩) := r50
  clear r00 r50
  generalize (w.alloc (Obj.cells #[Value.string s] 26)).alloc (Obj.cells #[Value.string ⟨#[]⟩] 26) = Wz at *
  have c0 : Wz.drew.cell? ⟨w.heap.size, 0, none⟩ = some (.string s) := r0.out.cell
  have CA : Hid (∀ V blk, SAt V (some ⟨blk, 0, none⟩) [s, label] → Calls Tryd.prog 16 #[.string askB, .slice (some ⟨blk, 0, none⟩) 2 2] V fun e w' => e = .returned (.string (tagB askB [s, label])) ∧ Below V.heap.size V w') := fun V blk h => refTag_any askB (some ⟨blk, 0, none⟩) 2 [s, label] V h (by simp) (by decide) (fun i hi => Nat.lt_trans (each2 (by omega) hl i hi) (by omega)) (by rw [parts3]; have : askB.size = 3 := rfl; omega)
  have CB : Hid (∀ V blk, SAt V (some ⟨blk, 0, none⟩) [s, label] → Calls Tryd.prog 16 #[.string askedB, .slice (some ⟨blk, 0, none⟩) 2 2] V fun e w' => e = .returned (.string (tagB askedB [s, label])) ∧ Below V.heap.size V w') := fun V blk h => refTag_any askedB (some ⟨blk, 0, none⟩) 2 [s, label] V h (by simp) (by decide) (fun i hi => Nat.lt_trans (each2 (by omega) hl i hi) (by omega)) (by rw [parts3]; have : askedB.size = 5 := rfl; omega)
  generalize hQA : tagB askB [s, label] = QA at *
  have HQA : Hid (tagB askB [s, label] = QA) := hQA
  clear hQA
  generalize hQB : tagB askedB [s, label] = QB at *
  have HQB : Hid (tagB askedB [s, label] = QB) := hQB
  clear hQB
  refine wp_region_held_drew (S := fun w' => w'.cell? ⟨w.heap.size, 0, none⟩ = some (.string s)) (by kernel_rfl) (c0) (fun hHeld => ?_)
  refine wpAnyH_take (i := 0) (v := .pointer (some ⟨w.heap.size, 0, none⟩)) rfl (by kernel_rfl) (by kernel_rfl) (by kernel_rfl) (fun _ _ _ h => h) (Or.inl ⟨by rfl, ?_⟩) hHeld ?_
  · intro w _; go_simp
  simp only [Act.put, List.getElem_toArray, List.getElem_cons_succ, List.getElem_cons_zero, List.setIfInBounds_toArray, List.set_cons_zero, List.set_cons_succ, Array.toArray_toList]
  refine wpAnyH_take (i := 1) (v := .string s) rfl (by kernel_rfl) (by kernel_rfl) (by kernel_rfl) (fun _ _ _ h => h) (Or.inl ⟨by rfl, ?_⟩) hHeld ?_
  · intro w' hc; go_simp
  simp only [Act.put, List.getElem_toArray, List.getElem_cons_succ, List.getElem_cons_zero, List.setIfInBounds_toArray, List.set_cons_zero, List.set_cons_succ, Array.toArray_toList]
  refine wpAnyH_take (i := 2) (v := .string label) rfl (by kernel_rfl) (by kernel_rfl) (by kernel_rfl) (fun _ _ _ h => h) (Or.inl ⟨by rfl, ?_⟩) hHeld ?_
  · intro w _; go_simp
  simp only [Act.put, List.getElem_toArray, List.getElem_cons_succ, List.getElem_cons_zero, List.setIfInBounds_toArray, List.set_cons_zero, List.set_cons_succ, Array.toArray_toList]
  refine wpAnyH_take (i := 5) (v := .pointer (some ⟨w.heap.size, 0, none⟩)) rfl (by kernel_rfl) (by kernel_rfl) (by kernel_rfl) (fun _ _ _ h => h) (Or.inl ⟨by rfl, ?_⟩) hHeld ?_
  · intro w _; go_simp
  simp only [Act.put, List.getElem_toArray, List.getElem_cons_succ, List.getElem_cons_zero, List.setIfInBounds_toArray, List.set_cons_zero, List.set_cons_succ, Array.toArray_toList]
  refine wpAnyH_take (i := 6) (v := .string s) rfl (by kernel_rfl) (by kernel_rfl) (by kernel_rfl) (fun _ _ _ h => h) (Or.inl ⟨by rfl, ?_⟩) hHeld ?_
  · intro w' hc; go_simp
  simp only [Act.put, List.getElem_toArray, List.getElem_cons_succ, List.getElem_cons_zero, List.setIfInBounds_toArray, List.set_cons_zero, List.set_cons_succ, Array.toArray_toList]
  refine wpAnyH_take (i := 7) (v := .string label) rfl (by kernel_rfl) (by kernel_rfl) (by kernel_rfl) (fun _ _ _ h => h) (Or.inl ⟨by rfl, ?_⟩) hHeld ?_
  · intro w _; go_simp
  simp only [Act.put, List.getElem_toArray, List.getElem_cons_succ, List.getElem_cons_zero, List.setIfInBounds_toArray, List.set_cons_zero, List.set_cons_succ, Array.toArray_toList]
  clear c0
  have r0d : Hid (RAt Wz.drew w.heap.size s) := r0.out
  have r5d : Hid (RAt Wz.drew (w.heap.size + 1) ⟨#[]⟩) := r5.out
  have HBd : Hid (Below w.heap.size w Wz.drew) := HB0.out.drew
  clear r0 r5 HB0
  generalize Wz.drew = Wa at *
  have r0 : Hid (RAt Wa w.heap.size s) := r0d.out
  have r5 : Hid (RAt Wa (w.heap.size + 1) ⟨#[]⟩) := r5d.out
  have h00 : Hid (w.heap.size < Wa.heap.size) := r0.out.lt
  have b0 : Hid (Below Wa.heap.size Wa Wa) := Below.refl _ _
  refine wpAnyH_ready (rs := [3, 8]) (by kernel_rfl) (by simp) ?_
  refine AllReadyH.cons rfl (fun K hK => ?_) (AllReadyH.cons rfl (fun K hK => ?_) AllReadyH.nil)
  · go_simp
    have sa3 : Hid (SAt (Wa.alloc (Obj.cells #[Value.string s, Value.string label] 9)) (some ⟨Wa.heap.size, 0, none⟩) [s, label]) := SAt.new Wa [s, label] 9
    have bv2 : Hid (Below Wa.heap.size Wa (Wa.alloc (Obj.cells #[Value.string s, Value.string label] 9))) := b0.out.alloc b0.out.size _
    generalize Wa.alloc (Obj.cells #[Value.string s, Value.string label] 9) = V1 at *
    refine hK.out _ _ ((r0.out.of_below bv2.out h00.out).cell) (fun hHeld4 => ?_)
    clear hK K
    try simp only [Act.put, List.getElem_toArray, List.getElem_cons_succ, List.getElem_cons_zero, List.setIfInBounds_toArray, List.set_cons_zero, List.set_cons_succ, Array.toArray_toList]
    refine wpAnyH_ready (rs := [4, 8]) (by kernel_rfl) (by simp) ?_
    refine AllReadyH.cons rfl (fun K hK => ?_) (AllReadyH.cons rfl (fun K hK => ?_) AllReadyH.nil)
    · go_simp
      refine (CA.out V1 Wa.heap.size sa3.out).mono ?_
      rintro e V5 ⟨rfl, hb7⟩
      have bv6 : Hid (Below Wa.heap.size Wa V5) := bv2.out.trans (hb7.mono bv2.out.size)
      clear hb7
      go_wp2_with fail
      refine hK.out _ _ ((r0.out.of_below bv6.out h00.out).cell) (fun hHeld8 => ?_)
      clear hK K
      try simp only [Act.put, List.getElem_toArray, List.getElem_cons_succ, List.getElem_cons_zero, List.setIfInBounds_toArray, List.set_cons_zero, List.set_cons_succ, Array.toArray_toList]
      refine wpAnyH_ready (rs := [8]) (by kernel_rfl) (by simp) ?_
      refine AllReadyH.cons rfl (fun K hK => ?_) AllReadyH.nil
      go_simp
      have sa11 : Hid (SAt (V5.alloc (Obj.cells #[Value.string s, Value.string label] 9)) (some ⟨V5.heap.size, 0, none⟩) [s, label]) := SAt.new V5 [s, label] 9
      have bv10 : Hid (Below Wa.heap.size Wa (V5.alloc (Obj.cells #[Value.string s, Value.string label] 9))) := bv6.out.alloc bv6.out.size _
      generalize V5.alloc (Obj.cells #[Value.string s, Value.string label] 9) = V9 at *
      refine hK.out _ _ ((r0.out.of_below bv10.out h00.out).cell) (fun hHeld12 => ?_)
      clear hK K
      try simp only [Act.put, List.getElem_toArray, List.getElem_cons_succ, List.getElem_cons_zero, List.setIfInBounds_toArray, List.set_cons_zero, List.set_cons_succ, Array.toArray_toList]
      refine wpAnyH_ready (rs := [9]) (by kernel_rfl) (by simp) ?_
      refine AllReadyH.cons rfl (fun K hK => ?_) AllReadyH.nil
      go_simp
      refine (CB.out V9 V5.heap.size sa11.out).mono ?_
      rintro e V13 ⟨rfl, hb15⟩
      have bv14 : Hid (Below Wa.heap.size Wa V13) := bv10.out.trans (hb15.mono bv10.out.size)
      clear hb15
      go_wp2_with fail
      refine hK.out _ _ ((r0.out.of_below bv14.out h00.out).cell) (fun hHeld16 => ?_)
      clear hK K
      try simp only [Act.put, List.getElem_toArray, List.getElem_cons_succ, List.getElem_cons_zero, List.setIfInBounds_toArray, List.set_cons_zero, List.set_cons_succ, Array.toArray_toList]
      refine wpAnyH_take (i := 10) (v := .agg #[.string QB]) rfl (by kernel_rfl) (by kernel_rfl) (by kernel_rfl) (fun _ _ _ h => h) (Or.inl ⟨by rfl, ?_⟩) hHeld16 ?_
      · intro w _; go_simp
      simp only [Act.put, List.getElem_toArray, List.getElem_cons_succ, List.getElem_cons_zero, List.setIfInBounds_toArray, List.set_cons_zero, List.set_cons_succ, Array.toArray_toList]
      refine wpAnyH_ready (rs := [11]) (by kernel_rfl) (by simp) ?_
      refine AllReadyH.cons rfl (fun K hK => ?_) AllReadyH.nil
      go_simp
      refine hK.out _ _ ((r0.out.of_below bv14.out h00.out).cell) (fun hHeld17 => ?_)
      clear hK K
      try simp only [Act.put, List.getElem_toArray, List.getElem_cons_succ, List.getElem_cons_zero, List.setIfInBounds_toArray, List.set_cons_zero, List.set_cons_succ, Array.toArray_toList]
      have r5v : RAt V13 (w.heap.size + 1) ⟨#[]⟩ := r5.out.of_below bv14.out r5.out.lt
      have r0v : RAt V13 w.heap.size s := r0.out.of_below bv14.out h00.out
      have c5 := r5v.cell
      have f5 := r5v.frozen
      refine wpAnyH_ready (rs := [12]) (by kernel_rfl) (by simp) ?_
      refine AllReadyH.cons rfl (fun K hK => ?_) AllReadyH.nil
      go_simp
      refine hK.out _ _ (r0v.of_but ((But.refl (w.heap.size + 1) V13).setCell _ _) (by omega)).cell (fun hHeldZ => ?_)
      clear hK K
      try simp only [Act.put, List.getElem_toArray, List.getElem_cons_succ, List.getElem_cons_zero, List.setIfInBounds_toArray, List.set_cons_zero, List.set_cons_succ, Array.toArray_toList]
      refine wpAnyH_done (by kernel_rfl) ?_ _
      go_wp2_with fail
      refine bodyPost_ret (v := .tuple #[.string QA, .agg #[.string QB]]) (results_tmp_cell Tryd.results10 _ _ (w.heap.size + 1) 0 [.string QB] _ rfl (r5v.set QB).range Tryd.underlying26 rfl size31) rfl ⟨by rw [HQA.out, HQB.out], ?_⟩
      exact Below.own (HBd.out.trans (bv14.out.mono HBd.out.size)) (by omega) _ _
    · go_simp
      have sa20 : Hid (SAt (V1.alloc (Obj.cells #[Value.string s, Value.string label] 9)) (some ⟨V1.heap.size, 0, none⟩) [s, label]) := SAt.new V1 [s, label] 9
      have bv19 : Hid (Below Wa.heap.size Wa (V1.alloc (Obj.cells #[Value.string s, Value.string label] 9))) := bv2.out.alloc bv2.out.size _
      have sa21 : Hid (SAt (V1.alloc (Obj.cells #[Value.string s, Value.string label] 9)) (some ⟨Wa.heap.size, 0, none⟩) [s, label]) := sa3.out.of_below ((Below.refl V1.heap.size V1).alloc (Nat.le_refl _) _) sa3.out.lt
      generalize V1.alloc (Obj.cells #[Value.string s, Value.string label] 9) = V18 at *
      refine hK.out _ _ ((r0.out.of_below bv19.out h00.out).cell) (fun hHeld22 => ?_)
      clear hK K
      try simp only [Act.put, List.getElem_toArray, List.getElem_cons_succ, List.getElem_cons_zero, List.setIfInBounds_toArray, List.set_cons_zero, List.set_cons_succ, Array.toArray_toList]
      refine wpAnyH_ready (rs := [4]) (by kernel_rfl) (by simp) ?_
      refine AllReadyH.cons rfl (fun K hK => ?_) AllReadyH.nil
      go_simp
      refine (CA.out V18 Wa.heap.size sa21.out).mono ?_
      rintro e V23 ⟨rfl, hb25⟩
      have bv24 : Hid (Below Wa.heap.size Wa V23) := bv19.out.trans (hb25.mono bv19.out.size)
      have sa26 : Hid (SAt V23 (some ⟨V1.heap.size, 0, none⟩) [s, label]) := sa20.out.of_below hb25 sa20.out.lt
      clear hb25
      go_wp2_with fail
      refine hK.out _ _ ((r0.out.of_below bv24.out h00.out).cell) (fun hHeld27 => ?_)
      clear hK K
      try simp only [Act.put, List.getElem_toArray, List.getElem_cons_succ, List.getElem_cons_zero, List.setIfInBounds_toArray, List.set_cons_zero, List.set_cons_succ, Array.toArray_toList]
      refine wpAnyH_ready (rs := [9]) (by kernel_rfl) (by simp) ?_
      refine AllReadyH.cons rfl (fun K hK => ?_) AllReadyH.nil
      go_simp
      refine (CB.out V23 V1.heap.size sa26.out).mono ?_
      rintro e V28 ⟨rfl, hb30⟩
      have bv29 : Hid (Below Wa.heap.size Wa V28) := bv24.out.trans (hb30.mono bv24.out.size)
      clear hb30
      go_wp2_with fail
      refine hK.out _ _ ((r0.out.of_below bv29.out h00.out).cell) (fun hHeld31 => ?_)
      clear hK K
      try simp only [Act.put, List.getElem_toArray, List.getElem_cons_succ, List.getElem_cons_zero, List.setIfInBounds_toArray, List.set_cons_zero, List.set_cons_succ, Array.toArray_toList]
      refine wpAnyH_take (i := 10) (v := .agg #[.string QB]) rfl (by kernel_rfl) (by kernel_rfl) (by kernel_rfl) (fun _ _ _ h => h) (Or.inl ⟨by rfl, ?_⟩) hHeld31 ?_
      · intro w _; go_simp
      simp only [Act.put, List.getElem_toArray, List.getElem_cons_succ, List.getElem_cons_zero, List.setIfInBounds_toArray, List.set_cons_zero, List.set_cons_succ, Array.toArray_toList]
      refine wpAnyH_ready (rs := [11]) (by kernel_rfl) (by simp) ?_
      refine AllReadyH.cons rfl (fun K hK => ?_) AllReadyH.nil
      go_simp
      refine hK.out _ _ ((r0.out.of_below bv29.out h00.out).cell) (fun hHeld32 => ?_)
      clear hK K
      try simp only [Act.put, List.getElem_toArray, List.getElem_cons_succ, List.getElem_cons_zero, List.setIfInBounds_toArray, List.set_cons_zero, List.set_cons_succ, Array.toArray_toList]
      have r5v : RAt V28 (w.heap.size + 1) ⟨#[]⟩ := r5.out.of_below bv29.out r5.out.lt
      have r0v : RAt V28 w.heap.size s := r0.out.of_below bv29.out h00.out
      have c5 := r5v.cell
      have f5 := r5v.frozen
      refine wpAnyH_ready (rs := [12]) (by kernel_rfl) (by simp) ?_
      refine AllReadyH.cons rfl (fun K hK => ?_) AllReadyH.nil
      go_simp
      refine hK.out _ _ (r0v.of_but ((But.refl (w.heap.size + 1) V28).setCell _ _) (by omega)).cell (fun hHeldZ => ?_)
      clear hK K
      try simp only [Act.put, List.getElem_toArray, List.getElem_cons_succ, List.getElem_cons_zero, List.setIfInBounds_toArray, List.set_cons_zero, List.set_cons_succ, Array.toArray_toList]
      refine wpAnyH_done (by kernel_rfl) ?_ _
      go_wp2_with fail
      refine bodyPost_ret (v := .tuple #[.string QA, .agg #[.string QB]]) (results_tmp_cell Tryd.results10 _ _ (w.heap.size + 1) 0 [.string QB] _ rfl (r5v.set QB).range Tryd.underlying26 rfl size31) rfl ⟨by rw [HQA.out, HQB.out], ?_⟩
      exact Below.own (HBd.out.trans (bv29.out.mono HBd.out.size)) (by omega) _ _
  · go_simp
    have sa35 : Hid (SAt (Wa.alloc (Obj.cells #[Value.string s, Value.string label] 9)) (some ⟨Wa.heap.size, 0, none⟩) [s, label]) := SAt.new Wa [s, label] 9
    have bv34 : Hid (Below Wa.heap.size Wa (Wa.alloc (Obj.cells #[Value.string s, Value.string label] 9))) := b0.out.alloc b0.out.size _
    generalize Wa.alloc (Obj.cells #[Value.string s, Value.string label] 9) = V33 at *
    refine hK.out _ _ ((r0.out.of_below bv34.out h00.out).cell) (fun hHeld36 => ?_)
    clear hK K
    try simp only [Act.put, List.getElem_toArray, List.getElem_cons_succ, List.getElem_cons_zero, List.setIfInBounds_toArray, List.set_cons_zero, List.set_cons_succ, Array.toArray_toList]
    refine wpAnyH_ready (rs := [3]) (by kernel_rfl) (by simp) ?_
    refine AllReadyH.cons rfl (fun K hK => ?_) AllReadyH.nil
    go_simp
    have sa39 : Hid (SAt (V33.alloc (Obj.cells #[Value.string s, Value.string label] 9)) (some ⟨V33.heap.size, 0, none⟩) [s, label]) := SAt.new V33 [s, label] 9
    have bv38 : Hid (Below Wa.heap.size Wa (V33.alloc (Obj.cells #[Value.string s, Value.string label] 9))) := bv34.out.alloc bv34.out.size _
    have sa40 : Hid (SAt (V33.alloc (Obj.cells #[Value.string s, Value.string label] 9)) (some ⟨Wa.heap.size, 0, none⟩) [s, label]) := sa35.out.of_below ((Below.refl V33.heap.size V33).alloc (Nat.le_refl _) _) sa35.out.lt
    generalize V33.alloc (Obj.cells #[Value.string s, Value.string label] 9) = V37 at *
    refine hK.out _ _ ((r0.out.of_below bv38.out h00.out).cell) (fun hHeld41 => ?_)
    clear hK K
    try simp only [Act.put, List.getElem_toArray, List.getElem_cons_succ, List.getElem_cons_zero, List.setIfInBounds_toArray, List.set_cons_zero, List.set_cons_succ, Array.toArray_toList]
    refine wpAnyH_ready (rs := [4]) (by kernel_rfl) (by simp) ?_
    refine AllReadyH.cons rfl (fun K hK => ?_) AllReadyH.nil
    go_simp
    refine (CA.out V37 V33.heap.size sa39.out).mono ?_
    rintro e V42 ⟨rfl, hb44⟩
    have bv43 : Hid (Below Wa.heap.size Wa V42) := bv38.out.trans (hb44.mono bv38.out.size)
    have sa45 : Hid (SAt V42 (some ⟨Wa.heap.size, 0, none⟩) [s, label]) := sa40.out.of_below hb44 sa40.out.lt
    clear hb44
    go_wp2_with fail
    refine hK.out _ _ ((r0.out.of_below bv43.out h00.out).cell) (fun hHeld46 => ?_)
    clear hK K
    try simp only [Act.put, List.getElem_toArray, List.getElem_cons_succ, List.getElem_cons_zero, List.setIfInBounds_toArray, List.set_cons_zero, List.set_cons_succ, Array.toArray_toList]
    refine wpAnyH_ready (rs := [9]) (by kernel_rfl) (by simp) ?_
    refine AllReadyH.cons rfl (fun K hK => ?_) AllReadyH.nil
    go_simp
    refine (CB.out V42 Wa.heap.size sa45.out).mono ?_
    rintro e V47 ⟨rfl, hb49⟩
    have bv48 : Hid (Below Wa.heap.size Wa V47) := bv43.out.trans (hb49.mono bv43.out.size)
    clear hb49
    go_wp2_with fail
    refine hK.out _ _ ((r0.out.of_below bv48.out h00.out).cell) (fun hHeld50 => ?_)
    clear hK K
    try simp only [Act.put, List.getElem_toArray, List.getElem_cons_succ, List.getElem_cons_zero, List.setIfInBounds_toArray, List.set_cons_zero, List.set_cons_succ, Array.toArray_toList]
    refine wpAnyH_take (i := 10) (v := .agg #[.string QB]) rfl (by kernel_rfl) (by kernel_rfl) (by kernel_rfl) (fun _ _ _ h => h) (Or.inl ⟨by rfl, ?_⟩) hHeld50 ?_
    · intro w _; go_simp
    simp only [Act.put, List.getElem_toArray, List.getElem_cons_succ, List.getElem_cons_zero, List.setIfInBounds_toArray, List.set_cons_zero, List.set_cons_succ, Array.toArray_toList]
    refine wpAnyH_ready (rs := [11]) (by kernel_rfl) (by simp) ?_
    refine AllReadyH.cons rfl (fun K hK => ?_) AllReadyH.nil
    go_simp
    refine hK.out _ _ ((r0.out.of_below bv48.out h00.out).cell) (fun hHeld51 => ?_)
    clear hK K
    try simp only [Act.put, List.getElem_toArray, List.getElem_cons_succ, List.getElem_cons_zero, List.setIfInBounds_toArray, List.set_cons_zero, List.set_cons_succ, Array.toArray_toList]
    have r5v : RAt V47 (w.heap.size + 1) ⟨#[]⟩ := r5.out.of_below bv48.out r5.out.lt
    have r0v : RAt V47 w.heap.size s := r0.out.of_below bv48.out h00.out
    have c5 := r5v.cell
    have f5 := r5v.frozen
    refine wpAnyH_ready (rs := [12]) (by kernel_rfl) (by simp) ?_
    refine AllReadyH.cons rfl (fun K hK => ?_) AllReadyH.nil
    go_simp
    refine hK.out _ _ (r0v.of_but ((But.refl (w.heap.size + 1) V47).setCell _ _) (by omega)).cell (fun hHeldZ => ?_)
    clear hK K
    try simp only [Act.put, List.getElem_toArray, List.getElem_cons_succ, List.getElem_cons_zero, List.setIfInBounds_toArray, List.set_cons_zero, List.set_cons_succ, Array.toArray_toList]
    refine wpAnyH_done (by kernel_rfl) ?_ _
    go_wp2_with fail
    refine bodyPost_ret (v := .tuple #[.string QA, .agg #[.string QB]]) (results_tmp_cell Tryd.results10 _ _ (w.heap.size + 1) 0 [.string QB] _ rfl (r5v.set QB).range Tryd.underlying26 rfl size31) rfl ⟨by rw [HQA.out, HQB.out], ?_⟩
    exact Below.own (HBd.out.trans (bv48.out.mono HBd.out.size)) (by omega) _ _
end Go.Proofs.YtckfdpiohkggaabDoor.F
