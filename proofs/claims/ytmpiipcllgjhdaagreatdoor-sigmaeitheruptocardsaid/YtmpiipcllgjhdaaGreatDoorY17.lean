/- The walks of a talk's functions: NewTalk, Say, Ask, Fork; and the reference's. Sums of numbers, in a field. What is reduced. -/
import Derived.Test.YtmpiipcllgjhdaaGreatDoorY16
import Derived.Test.YtmpiipcllgjhdaaGreatDoorY14
set_option linter.unusedSimpArgs false
set_option linter.unusedVariables false
set_option maxRecDepth 100000
namespace Go.Proofs.YtmpiipcllgjhdaaGreatDoor.F
open Go.RowKit

/-- The tag of a label and parts, as a text. -/
def tagB (label : ByteArray) (ps : List ByteArray) : ByteArray := ⟨(digL (hK 0) (partsL (label :: ps))).toArray⟩
theorem tagB_size (label : ByteArray) (ps : List ByteArray) : (tagB label ps).size = 32 := by
  show (digL (hK 0) (partsL (label :: ps))).toArray.size = 32
  rw [List.size_toArray, digL_length]
/-- A talk lies in block b. -/
def TAt (w : World) (b : Nat) (s : ByteArray) : Prop := w.heap[b]? = some (.cells #[.string s] 162)
theorem TAt.lt {w : World} {b : Nat} {s : ByteArray} (h : TAt w b s) : b < w.heap.size := (Array.getElem?_eq_some_iff.1 h).1
theorem TAt.cell {w : World} {b : Nat} {s : ByteArray} (h : TAt w b s) : w.cell? ⟨b, 0, none⟩ = some (.string s) := by
  unfold TAt at h
  simp [World.cell?, h]
theorem TAt.frozen {w : World} {b : Nat} {s : ByteArray} (h : TAt w b s) : w.frozen? ⟨b, 0, none⟩ = false := by
  unfold TAt at h
  simp [World.frozen?, h]
theorem TAt.of_below {w w' : World} {b B : Nat} {s : ByteArray} (h : TAt w b s) (hb : Below B w w') (hB : b < B) : TAt w' b s := by
  unfold TAt; rw [hb.block b hB]; exact h
theorem TAt.of_but {w w' : World} {b g : Nat} {s : ByteArray} (h : TAt w b s) (hb : But g w w') (hg : b ≠ g) : TAt w' b s := by
  unfold TAt; rw [hb.block b h.lt hg]; exact h
theorem TAt.alloc {w : World} {b : Nat} {s : ByteArray} (h : TAt w b s) (o : Obj) : TAt (w.alloc o) b s := by
  unfold TAt; rw [Below.heap_alloc _ _ _ h.lt]; exact h
theorem TAt.new (w : World) (s : ByteArray) : TAt (w.alloc (.cells #[.string s] 162)) w.heap.size s := by
  show (w.heap.push _)[w.heap.size]? = _
  simp
theorem TAt.set {w : World} {b : Nat} {s : ByteArray} (h : TAt w b s) (t : ByteArray) : TAt (w.setCell ⟨b, 0, none⟩ (.string t)) b t := by
  unfold TAt at *
  simp [World.setCell, Array.getElem?_modify, h]
abbrev talkB : ByteArray := ⟨#[116, 97, 108, 107]⟩
abbrev sayB : ByteArray := ⟨#[115, 97, 121]⟩
abbrev askB : ByteArray := ⟨#[97, 115, 107]⟩
abbrev askedB : ByteArray := ⟨#[97, 115, 107, 101, 100]⟩

/-- tag of parts that were just laid. -/
theorem tag_new (label : ByteArray) (ps : List ByteArray) (w : World) (hl : ps.length < 1000) (hll : label.size < 1125899906842624) (hsz : ∀ i (h : i < ps.length), ps[i].size < 1125899906842624)
    (hn : (partsL (label :: ps)).length < 4611686018427387904) (hT : Tabs w) (hS : Starts w) :
    Calls Tryz.prog 98 #[.string label, .slice (some ⟨w.heap.size, 0, none⟩) ps.length ps.length] (w.alloc (.cells (ps.map Value.string).toArray 9)) fun e w' => e = .returned (.string (tagB label ps)) ∧ Below w.heap.size w w' := by
  have hb := (Below.refl w.heap.size w).alloc (Nat.le_refl _) (.cells (ps.map Value.string).toArray 9)
  refine (tag_any label (some ⟨w.heap.size, 0, none⟩) ps.length ps (w.alloc (.cells (ps.map Value.string).toArray 9)) (SAt.new w ps 9) (by omega) (by omega) (fun i h => by have := hsz i h; omega) (by omega) (hT.of_below hb hT.size) (hS.of_below hb hT.size)).mono ?_
  rintro e w' ⟨rfl, h⟩
  exact ⟨rfl, hb.trans (h.mono (by simp))⟩
theorem parts2 (a b : ByteArray) : (partsL [a, b]).length = 8 + a.size + b.size := by
  simp only [partsL, List.flatMap_cons, List.flatMap_nil, List.length_append, fourL_length, List.length_nil, ← Lib.size_eq]; omega
theorem parts3 (a b c : ByteArray) : (partsL [a, b, c]).length = 12 + a.size + b.size + c.size := by
  simp only [partsL, List.flatMap_cons, List.flatMap_nil, List.length_append, fourL_length, List.length_nil, ← Lib.size_eq]; omega
theorem parts4 (a b c d : ByteArray) : (partsL [a, b, c, d]).length = 16 + a.size + b.size + c.size + d.size := by
  simp only [partsL, List.flatMap_cons, List.flatMap_nil, List.length_append, fourL_length, List.length_nil, ← Lib.size_eq]; omega
theorem each1 {a : ByteArray} (ha : a.size < 1125899906842624) : ∀ i (h : i < [a].length), [a][i].size < 1125899906842624 := by
  intro i hi
  obtain rfl : i = 0 := by simpa using hi
  exact ha
theorem each2 {a b : ByteArray} (ha : a.size < 1125899906842624) (hb : b.size < 1125899906842624) : ∀ i (h : i < [a, b].length), [a, b][i].size < 1125899906842624 := by
  intro i hi
  have hi' : i < 2 := hi
  obtain rfl | rfl : i = 0 ∨ i = 1 := by omega
  · exact ha
  · exact hb
theorem each3 {a b c : ByteArray} (ha : a.size < 1125899906842624) (hb : b.size < 1125899906842624) (hc : c.size < 1125899906842624) : ∀ i (h : i < [a, b, c].length), [a, b, c][i].size < 1125899906842624 := by
  intro i hi
  have hi' : i < 3 := hi
  obtain rfl | rfl | rfl : i = 0 ∨ i = 1 ∨ i = 2 := by omega
  · exact ha
  · exact hb
  · exact hc

set_option maxRecDepth 100000 in
set_option maxHeartbeats 400000 in
theorem newTalk_any (label : ByteArray) (hl : label.size < 1125899906842624) (w : World) (hT : Tabs w) (hS : Starts w) :
    Calls Tryz.prog 116 #[.string label] w fun e w' => (∃ b, e = .returned (.pointer (some ⟨b, 0, none⟩)) ∧ w.heap.size ≤ b ∧ TAt w' b (tagB talkB [label])) ∧ Below w.heap.size w w' := by
  go_enter Tryz.func116, Tryz.ntmps116
  go_wp2_with fail
  refine (tag_new talkB [label] w (by simp) (by decide) (each1 hl) (by rw [parts2]; have : talkB.size = 4 := rfl; omega) hT hS).mono ?_
  rintro e X ⟨rfl, hb⟩
  have HB : Hid (Below w.heap.size w X) := hb
  generalize hSd : tagB talkB [label] = S at *
  have HSd : Hid (tagB talkB [label] = S) := hSd
  clear hSd
  clear hb
  go_wp2_with fail
  go_ret
  exact ⟨⟨X.heap.size, rfl, HB.out.size, by rw [HSd.out]; exact TAt.new X S⟩, HB.out.alloc HB.out.size _⟩
set_option maxRecDepth 100000 in
set_option maxHeartbeats 400000 in
theorem say_any (tb : Nat) (s label t : ByteArray) (hs : s.size = 32) (hl : label.size < 1125899906842624) (ht : t.size < 1125899906842624) (w : World) (hA : TAt w tb s) (h2 : 3 < tb) (hT : Tabs w) (hS : Starts w) :
    Calls Tryz.prog 83 #[.pointer (some ⟨tb, 0, none⟩), .string label, .string t] w fun e w' => e = .returned (.tuple #[]) ∧ TAt w' tb (tagB sayB [s, label, t]) ∧ But tb w w' := by
  have c0 := hA.cell
  go_enter Tryz.func83, Tryz.ntmps83
  go_wp2_with fail
  refine (tag_new sayB [s, label, t] w (by simp) (by decide) (each3 (by omega) hl ht) (by rw [parts4]; have : sayB.size = 3 := rfl; omega) hT hS).mono ?_
  rintro e X ⟨rfl, hb⟩
  have A1 := hA.of_below hb hA.lt
  have HB : Hid (But tb w X) := (But.refl tb w).of_below hb
  have c1 := A1.cell
  have f1 := A1.frozen
  generalize hSd : tagB sayB [s, label, t] = S at *
  have HSd : Hid (tagB sayB [s, label, t] = S) := hSd
  clear hSd
  clear hb c0
  go_wp2_with fail
  go_end0
  exact ⟨rfl, by rw [HSd.out]; exact A1.set S, HB.out.setCell _ _⟩
set_option maxRecDepth 100000 in
set_option maxHeartbeats 400000 in
theorem ask_any (tb : Nat) (s label : ByteArray) (hs : s.size = 32) (hl : label.size < 1125899906842624) (w : World) (hA : TAt w tb s) (h2 : 3 < tb) (hT : Tabs w) (hS : Starts w) :
    Calls Tryz.prog 121 #[.pointer (some ⟨tb, 0, none⟩), .string label] w fun e w' => e = .returned (.string (tagB askB [s, label])) ∧ TAt w' tb (tagB askedB [s, label]) ∧ But tb w w' := by
  have c0 := hA.cell
  have hT0 : Hid (3 < w.heap.size) := hT.size
  go_enter Tryz.func121, Tryz.ntmps121
  go_wp2_with fail
  refine (tag_new askB [s, label] w (by simp) (by decide) (each2 (by omega) hl) (by rw [parts3]; have : askB.size = 3 := rfl; omega) hT hS).mono ?_
  rintro e X ⟨rfl, hb⟩
  have A1 := hA.of_below hb hA.lt
  have HB : Hid (Below w.heap.size w X) := hb
  have c1 := A1.cell
  generalize hQ : tagB askB [s, label] = Q at *
  have HQ : Hid (tagB askB [s, label] = Q) := hQ
  clear hQ hb c0
  go_wp2_with fail
  refine (tag_new askedB [s, label] X (by simp) (by decide) (each2 (by omega) hl) (by rw [parts3]; have : askedB.size = 5 := rfl; omega) (hT.of_below HB.out hT0.out) (hS.of_below HB.out hT0.out)).mono ?_
  rintro e Z ⟨rfl, hb2⟩
  have A2 := A1.of_below hb2 A1.lt
  have HB2 : Hid (But tb w Z) := ((But.refl tb w).of_below HB.out).of_below hb2
  have c2 := A2.cell
  have f2 := A2.frozen
  generalize hSd : tagB askedB [s, label] = S at *
  have HSd : Hid (tagB askedB [s, label] = S) := hSd
  clear hSd
  clear hb2 c1
  go_wp2_with fail
  go_ret
  exact ⟨by rw [HQ.out]; rfl, by rw [HSd.out]; exact A2.set S, HB2.out.setCell _ _⟩
end Go.Proofs.YtmpiipcllgjhdaaGreatDoor.F
namespace Go.Proofs.YtmpiipcllgjhdaaGreatDoor
open Go.RowKit Go.Deep Go.PlainAid

theorem plusA (w : World) {n m : Nat} (hn : n < BB ^ 4) (hm : m < BB ^ 4) (hs : n + m < BB ^ 4) : Calls Tryz.prog 149 #[A4 n, A4 m] w fun e w' => e = .returned (A4 (n + m)) ∧ Below w.heap.size w w' := by
  refine (plus_words w _ _ _ _ _ _ _ _ (w4_mem n) (w4_mem m)).mono ?_
  rintro e w' ⟨⟨z0, z1, z2, z3, b, rfl, hz, hb, eq⟩, hB⟩
  refine ⟨?_, hB⟩
  rw [vl_w4 hn, vl_w4 hm] at eq
  have e1 : vl BB [z0, z1, z2, z3] = n + m := by
    generalize vl BB [z0, z1, z2, z3] = v at *
    generalize BB ^ 4 = P at *
    rcases (show b = 0 ∨ b = 1 by omega) with rfl | rfl <;> omega
  rw [A4_of hz e1]
set_option maxRecDepth 100000 in
set_option maxHeartbeats 2000000 in
theorem fplus_words {w : World} {g o Wd M low one sq : Nat} (F : Hid (FH w g o Wd M low one sq)) (x0 x1 x2 x3 m0 m1 m2 m3 z0 z1 z2 z3 v0 v1 v2 v3 : Nat) (C1 : Hid (∀ W, Calls Tryz.prog 149 #[.agg #[U x0, U x1, U x2, U x3], .agg #[U m0, U m1, U m2, U m3]] W fun e w' => e = .returned (.agg #[U z0, U z1, U z2, U z3]) ∧ Below W.heap.size W w')) (C2 : Hid (∀ W, FH W g o Wd M low one sq → Calls Tryz.prog 137 #[.pointer (some ⟨g, o, none⟩), .agg #[U z0, U z1, U z2, U z3]] W fun e w' => e = .returned (.agg #[U v0, U v1, U v2, U v3]) ∧ Below W.heap.size W w')) :
    Calls Tryz.prog 141 #[.pointer (some ⟨g, o, none⟩), .agg #[U x0, U x1, U x2, U x3], .agg #[U m0, U m1, U m2, U m3]] w fun e w' => e = .returned (.agg #[U v0, U v1, U v2, U v3]) ∧ Below w.heap.size w w' := by
  go_enter Tryz.func141, Tryz.ntmps141
  go_wp2_with fail
  have neF_x : Hid (g ≠ w.heap.size + 0) := by have h := F.out.lt; show _ ≠ _; omega
  have neF_m : Hid (g ≠ w.heap.size + 1) := by have h := F.out.lt; show _ ≠ _; omega
  have neF_r : Hid (g ≠ w.heap.size + 2) := by have h := F.out.lt; show _ ≠ _; omega
  obtain ⟨U1, hU1⟩ : ∃ X, X = (((w.alloc (.cells #[U x0, U x1, U x2, U x3] 73)).alloc (.cells #[U m0, U m1, U m2, U m3] 73)).alloc (.cells #[.int .u64 0, .int .u64 0, .int .u64 0, .int .u64 0] 73)) := ⟨_, rfl⟩
  have Jx : Hid (IHolds U1 (w.heap.size) 73 [U x0, U x1, U x2, U x3]) := by
    have q := IHolds.new w 73 [U x0, U x1, U x2, U x3]
    show IHolds _ _ _ _
    rw [hU1]
    exact ((q.alloc _).alloc _)
  have Jm : Hid (IHolds U1 (w.heap.size + 1) 73 [U m0, U m1, U m2, U m3]) := by
    have q := IHolds.new (w.alloc (.cells #[U x0, U x1, U x2, U x3] 73)) 73 [U m0, U m1, U m2, U m3]
    simp only [World.size_alloc, Nat.add_assoc, Nat.reduceAdd] at q
    show IHolds _ _ _ _
    rw [hU1]
    exact (q.alloc _)
  have Jr : Hid (IHolds U1 (w.heap.size + 2) 73 [.int .u64 0, .int .u64 0, .int .u64 0, .int .u64 0]) := by
    have q := IHolds.new ((w.alloc (.cells #[U x0, U x1, U x2, U x3] 73)).alloc (.cells #[U m0, U m1, U m2, U m3] 73)) 73 [.int .u64 0, .int .u64 0, .int .u64 0, .int .u64 0]
    simp only [World.size_alloc, Nat.add_assoc, Nat.reduceAdd] at q
    show IHolds _ _ _ _
    rw [hU1]
    exact q
  have B : Hid (Below w.heap.size w U1) := by
    show Below _ _ _
    rw [hU1]
    exact ((((Below.refl _ w).alloc (Nat.le_refl _) _).alloc (by simp only [World.size_alloc]; omega) _).alloc (by simp only [World.size_alloc]; omega) _)
  rw [← hU1]
  clear hU1
  replace F := aF F (show Below w.heap.size w U1 from B.out)
  have zx_0 : U1.cell? ⟨w.heap.size, 0, none⟩ = some (U x0) := IHolds.cell (l := [U x0, U x1, U x2, U x3]) (t := 73) (b := w.heap.size) (w := U1) (Jx.out) 0 (by simp)
  have zx_1 : U1.cell? ⟨w.heap.size, 1, none⟩ = some (U x1) := IHolds.cell (l := [U x0, U x1, U x2, U x3]) (t := 73) (b := w.heap.size) (w := U1) (Jx.out) 1 (by simp)
  have zx_2 : U1.cell? ⟨w.heap.size, 2, none⟩ = some (U x2) := IHolds.cell (l := [U x0, U x1, U x2, U x3]) (t := 73) (b := w.heap.size) (w := U1) (Jx.out) 2 (by simp)
  have zx_3 : U1.cell? ⟨w.heap.size, 3, none⟩ = some (U x3) := IHolds.cell (l := [U x0, U x1, U x2, U x3]) (t := 73) (b := w.heap.size) (w := U1) (Jx.out) 3 (by simp)
  have zm_0 : U1.cell? ⟨w.heap.size + 1, 0, none⟩ = some (U m0) := IHolds.cell (l := [U m0, U m1, U m2, U m3]) (t := 73) (b := w.heap.size + 1) (w := U1) (Jm.out) 0 (by simp)
  have zm_1 : U1.cell? ⟨w.heap.size + 1, 1, none⟩ = some (U m1) := IHolds.cell (l := [U m0, U m1, U m2, U m3]) (t := 73) (b := w.heap.size + 1) (w := U1) (Jm.out) 1 (by simp)
  have zm_2 : U1.cell? ⟨w.heap.size + 1, 2, none⟩ = some (U m2) := IHolds.cell (l := [U m0, U m1, U m2, U m3]) (t := 73) (b := w.heap.size + 1) (w := U1) (Jm.out) 2 (by simp)
  have zm_3 : U1.cell? ⟨w.heap.size + 1, 3, none⟩ = some (U m3) := IHolds.cell (l := [U m0, U m1, U m2, U m3]) (t := 73) (b := w.heap.size + 1) (w := U1) (Jm.out) 3 (by simp)
  go_wp2_with fail
  clear zx_0 zx_1 zx_2 zx_3 zm_0 zm_1 zm_2 zm_3
  refine (C1.out U1).mono ?_
  rintro e U2 ⟨rfl, hb⟩
  replace F := aF F hb
  replace B := aB B hb
  replace Jx := aJ Jx hb
  replace Jm := aJ Jm hb
  replace Jr := aJ Jr hb
  clear hb
  go_wp2_with fail
  refine (C2.out U2 F.out).mono ?_
  rintro e U3 ⟨rfl, hb⟩
  replace F := aF F hb
  replace B := aB B hb
  replace Jx := aJ Jx hb
  replace Jm := aJ Jm hb
  replace Jr := aJ Jr hb
  clear hb
  have zr_0 : U3.cell? ⟨w.heap.size + 2, 0, none⟩ = some (.int .u64 0) := IHolds.cell (l := [.int .u64 0, .int .u64 0, .int .u64 0, .int .u64 0]) (t := 73) (b := w.heap.size + 2) (w := U3) (Jr.out) 0 (by simp)
  have zr_1 : U3.cell? ⟨w.heap.size + 2, 1, none⟩ = some (.int .u64 0) := IHolds.cell (l := [.int .u64 0, .int .u64 0, .int .u64 0, .int .u64 0]) (t := 73) (b := w.heap.size + 2) (w := U3) (Jr.out) 1 (by simp)
  have zr_2 : U3.cell? ⟨w.heap.size + 2, 2, none⟩ = some (.int .u64 0) := IHolds.cell (l := [.int .u64 0, .int .u64 0, .int .u64 0, .int .u64 0]) (t := 73) (b := w.heap.size + 2) (w := U3) (Jr.out) 2 (by simp)
  have zr_3 : U3.cell? ⟨w.heap.size + 2, 3, none⟩ = some (.int .u64 0) := IHolds.cell (l := [.int .u64 0, .int .u64 0, .int .u64 0, .int .u64 0]) (t := 73) (b := w.heap.size + 2) (w := U3) (Jr.out) 3 (by simp)
  have f0 := fJ Jr
  have hBut : But (w.heap.size + 2) U3 ((((U3.setCell ⟨w.heap.size + 2, 0, none⟩ (U v0)).setCell ⟨w.heap.size + 2, 1, none⟩ (U v1)).setCell ⟨w.heap.size + 2, 2, none⟩ (U v2)).setCell ⟨w.heap.size + 2, 3, none⟩ (U v3)) := (((((But.refl _ U3).setCell 0 (U v0)).setCell 1 (U v1)).setCell 2 (U v2)).setCell 3 (U v3))
  replace F := tF F hBut neF_r.out
  have I4 : Hid (IHolds _ (w.heap.size + 2) 73 [U v0, U v1, U v2, U v3]) := ((((Jr.out.set 0 (U v0)).set 1 (U v1)).set 2 (U v2)).set 3 (U v3))
  replace B : Hid (Below w.heap.size w ((((U3.setCell ⟨w.heap.size + 2, 0, none⟩ (U v0)).setCell ⟨w.heap.size + 2, 1, none⟩ (U v1)).setCell ⟨w.heap.size + 2, 2, none⟩ (U v2)).setCell ⟨w.heap.size + 2, 3, none⟩ (U v3))) := ((((B.out.setCell (by first | exact Nat.le_refl _ | exact ge_r.out | (show w.heap.size ≤ w.heap.size + 2; omega)) _).setCell (by first | exact Nat.le_refl _ | exact ge_r.out | (show w.heap.size ≤ w.heap.size + 2; omega)) _).setCell (by first | exact Nat.le_refl _ | exact ge_r.out | (show w.heap.size ≤ w.heap.size + 2; omega)) _).setCell (by first | exact Nat.le_refl _ | exact ge_r.out | (show w.heap.size ≤ w.heap.size + 2; omega)) _)
  replace Jx := tJ Jx hBut (by omega)
  replace Jm := tJ Jm hBut (by omega)
  replace Jr := I4
  clear I4 hBut
  go_wp2_with fail
  clear zr_0 zr_1 zr_2 zr_3
  clear f0
  generalize ((((U3.setCell ⟨w.heap.size + 2, 0, none⟩ (U v0)).setCell ⟨w.heap.size + 2, 1, none⟩ (U v1)).setCell ⟨w.heap.size + 2, 2, none⟩ (U v2)).setCell ⟨w.heap.size + 2, 3, none⟩ (U v3)) = U4 at *
  have E0 : Hid (U4.cell? ⟨w.heap.size + 2, 0, none⟩ = some (U v0)) := IHolds.cell (l := [U v0, U v1, U v2, U v3]) (t := 73) (b := w.heap.size + 2) (w := U4) Jr.out 0 (by simp)
  have E1 : Hid (U4.cell? ⟨w.heap.size + 2, 1, none⟩ = some (U v1)) := IHolds.cell (l := [U v0, U v1, U v2, U v3]) (t := 73) (b := w.heap.size + 2) (w := U4) Jr.out 1 (by simp)
  have E2 : Hid (U4.cell? ⟨w.heap.size + 2, 2, none⟩ = some (U v2)) := IHolds.cell (l := [U v0, U v1, U v2, U v3]) (t := 73) (b := w.heap.size + 2) (w := U4) Jr.out 2 (by simp)
  have E3 : Hid (U4.cell? ⟨w.heap.size + 2, 3, none⟩ = some (U v3)) := IHolds.cell (l := [U v0, U v1, U v2, U v3]) (t := 73) (b := w.heap.size + 2) (w := U4) Jr.out 3 (by simp)
  exact bodyPost_ret (v := .agg #[U v0, U v1, U v2, U v3]) (by simp [results, Tryz.results141, go_sem, E0.out, E1.out, E2.out, E3.out]) rfl ⟨rfl, B.out⟩
theorem fplusA {w : World} {g o Wd M low one sq a b : Nat} (F : Hid (FH w g o Wd M low one sq)) (ha : a < M) (hb : b < M) (hM : 2 * M ≤ BB ^ 4) :
    Calls Tryz.prog 141 #[.pointer (some ⟨g, o, none⟩), A4 a, A4 b] w fun e w' => e = .returned (A4 (belowN M (a + b))) ∧ Below w.heap.size w w' :=
  fplus_words F _ _ _ _ _ _ _ _ _ _ _ _ _ _ _ _ (fun W => plusA W (by omega) (by omega) (by omega)) (fun W hF => belowA hF (by omega) (by omega))
end Go.Proofs.YtmpiipcllgjhdaaGreatDoor
namespace Go.Proofs.YtmpiipcllgjhdaaGreatDoor
open Go.RowKit Go.Deep Go.PlainAid

theorem numS_extract (s : ByteArray) (i j : Nat) : numS (s.extract i j) = beV ((s.data.toList.drop i).take (j - i)) := by
  unfold numS
  rw [ByteArray.data_extract, Array.toList_extract]
theorem size_extract (s : ByteArray) (i j : Nat) (h : j ≤ s.size) : (s.extract i j).size = j - i := by
  rw [ByteArray.size_extract]; omega
theorem beV_upto (l : List UInt8) (i j : Nat) (h : i ≤ j) (hj : j ≤ l.length) : beV (l.take j) = beV (l.take i) * 256 ^ (j - i) + beV ((l.drop i).take (j - i)) := by
  have e : l.take j = l.take i ++ (l.drop i).take (j - i) := by
    have q := List.take_append_drop i (l.take j)
    rw [List.take_take, Nat.min_eq_left h] at q
    rw [List.take_drop, show i + (j - i) = j by omega]
    exact q.symm
  rw [e, beV_append, List.length_take, List.length_drop, Nat.min_eq_left (by omega)]
theorem BB_pow (W : Nat) : BB ^ W = 256 ^ (W * 8) := by rw [BB_256, ← Nat.pow_mul, Nat.mul_comm]
theorem belowN_mod {M x y : Nat} (hx : x < M) (hy : y < M) : belowN M (x + y) = (x + y) % M := by
  unfold belowN
  split
  · rw [Nat.mod_eq_of_lt (by assumption)]
  · rw [Nat.mod_eq_sub_mod (by omega), Nat.mod_eq_of_lt (by omega)]
/-- One piece more. -/
theorem red_step {l : List UInt8} {M Wd i j S : Nat} (hM : 0 < M) (hij : i ≤ j) (hj : j ≤ l.length) (hS : S = beV (l.take i) % M) (h : i + Wd * 8 = j ∨ i = 0) :
    belowN M (S * BB ^ Wd % M + beV ((l.drop i).take (j - i)) % M) = beV (l.take j) % M := by
  rw [belowN_mod (Nat.mod_lt _ hM) (Nat.mod_lt _ hM), ← Nat.add_mod, beV_upto l i j hij hj]
  rcases h with h | h
  · rw [show j - i = Wd * 8 by omega, ← BB_pow, Nat.add_mod, hS, Nat.mod_mul_mod, ← Nat.add_mod]
  · subst h
    have : S = 0 := by rw [hS]; simp [beV]
    rw [this]
    simp [beV]
set_option maxRecDepth 100000 in
set_option maxHeartbeats 4000000 in
theorem freduceA {w : World} {g o Wd M low one sq Ri : Nat} (F : Hid (FH w g o Wd M low one sq)) (fl : Fld Wd M low one sq Ri) (s : ByteArray) (hs : s.size ≤ 1000000) :
    Calls Tryz.prog 122 #[.pointer (some ⟨g, o, none⟩), .string s] w fun e w' => e = .returned (A4 (numS s % M)) ∧ Below w.heap.size w w' := by
  have hw1 := fl.w1
  have hw4 := fl.w4
  have HM0 : Hid (0 < M) := by have := fl.m2; show _ < _; omega
  obtain ⟨n, hn⟩ : ∃ n, n = s.size := ⟨_, rfl⟩
  have hsz : s.size = n := hn.symm
  have HN : Hid (s.data.toList.length = n) := by show _ = _; rw [hn]; rfl
  rw [← hn] at hs
  clear hn
  obtain ⟨z, hz⟩ : ∃ z, z = Wd * 8 := ⟨_, rfl⟩
  have kz : (Wd : Int) * 8 = (z : Int) := by omega
  have z0 : 0 < z := by omega
  have z9 : z ≤ 32 := by omega
  have Hz : Hid (z = Wd * 8) := hz
  have HBW : Hid (BB ^ Wd = 256 ^ z) := by show _ = _; rw [hz]; exact BB_pow Wd
  clear hz
  have z1 : (z : Int) ≠ 0 := by omega
  obtain ⟨t0, ht0⟩ : ∃ t, t = n % z := ⟨_, rfl⟩
  have kt : (n : Int) % (z : Int) = (t0 : Int) := by rw [ht0]; exact (Int.natCast_emod n z).symm
  have kt2 : (n : Int).tmod (z : Int) = (t0 : Int) := by rw [Int.tmod_eq_emod_of_nonneg (by omega)]; exact kt
  have Hdm : Hid (z * (n / z) + t0 = n) := by show _ = _; rw [ht0]; exact Nat.div_add_mod n z
  have t09 : t0 < z := by rw [ht0]; exact Nat.mod_lt _ z0
  clear ht0
  have CN : Hid (∀ W i j, i ≤ j → j ≤ n → j - i ≤ 32 → Calls Tryz.prog 63 #[.string (s.extract i j)] W fun e w' => e = .returned (A4 (numS (s.extract i j))) ∧ Below W.heap.size W w') := fun W i j h1 h2 h3 => numberOf_any W _ (by rw [size_extract s i j (by omega)]; exact h3)
  have CS : Hid (∀ W S, FH W g o Wd M low one sq → S < M → Calls Tryz.prog 109 #[.pointer (some ⟨g, o, none⟩), A4 S, A4 sq] W fun e w' => e = .returned (A4 (S * BB ^ Wd % M)) ∧ Below W.heap.size W w') := fun W S hF hS => joined_sq hF fl (by have := fl.m9; omega)
  have CO : Hid (∀ W p, FH W g o Wd M low one sq → p < BB ^ Wd → Calls Tryz.prog 109 #[.pointer (some ⟨g, o, none⟩), A4 p, A4 one] W fun e w' => e = .returned (A4 (p % M)) ∧ Below W.heap.size W w') := fun W p hF hp => joined_one hF fl hp
  have CP : Hid (∀ W x y, FH W g o Wd M low one sq → x < M → y < M → Calls Tryz.prog 141 #[.pointer (some ⟨g, o, none⟩), A4 x, A4 y] W fun e w' => e = .returned (A4 (belowN M (x + y))) ∧ Below W.heap.size W w') := fun W x y hF hx hy => fplusA hF hx hy fl.big
  clear fl
  have Jr : Hid (IHolds ((w.alloc (.cells #[.int .u64 0, .int .u64 0, .int .u64 0, .int .u64 0] 73)).alloc (.cells #[.int .u64 0, .int .u64 0, .int .u64 0, .int .u64 0] 73)) w.heap.size 73 [.int .u64 0, .int .u64 0, .int .u64 0, .int .u64 0]) := (IHolds.new w 73 [.int .u64 0, .int .u64 0, .int .u64 0, .int .u64 0]).alloc _
  have Js : Hid (IHolds ((w.alloc (.cells #[.int .u64 0, .int .u64 0, .int .u64 0, .int .u64 0] 73)).alloc (.cells #[.int .u64 0, .int .u64 0, .int .u64 0, .int .u64 0] 73)) (w.heap.size + 1) 73 [.int .u64 0, .int .u64 0, .int .u64 0, .int .u64 0]) := by
    have q := IHolds.new (w.alloc (.cells #[.int .u64 0, .int .u64 0, .int .u64 0, .int .u64 0] 73)) 73 [.int .u64 0, .int .u64 0, .int .u64 0, .int .u64 0]
    rw [World.size_alloc] at q
    exact q
  have B : Hid (Below w.heap.size w ((w.alloc (.cells #[.int .u64 0, .int .u64 0, .int .u64 0, .int .u64 0] 73)).alloc (.cells #[.int .u64 0, .int .u64 0, .int .u64 0, .int .u64 0] 73))) := ((Below.refl _ w).alloc (Nat.le_refl _) _).alloc (by simp only [World.size_alloc]; omega) _
  have hgl : g < w.heap.size := F.out.lt
  replace F := aF F B.out
  have fc := F.out.c0
  go_enter Tryz.func122, Tryz.ntmps122
  go_wp2_with fail
  clear fc
  generalize ((w.alloc (.cells #[.int .u64 0, .int .u64 0, .int .u64 0, .int .u64 0] 73)).alloc (.cells #[.int .u64 0, .int .u64 0, .int .u64 0, .int .u64 0] 73)) = U0 at *
  obtain ⟨b0, hb0⟩ : ∃ b, b = w.heap.size := ⟨_, rfl⟩
  rw [← hb0] at Jr Js hgl ⊢
  have Hb0 : Hid (b0 = w.heap.size) := hb0
  have Js : Hid (IHolds U0 (b0 + 1) 73 (us (ws4 0))) := by rw [ws4_zero]; exact Js
  clear hb0
  go_loopg [7, 8] (n / z + 1) (fun gk v7 v8 wr => ∃ (k i j S : Nat), gk + k = n / z + 1 ∧ v7 = .int .i64 (i : Int) ∧ v8 = .int .i64 (j : Int) ∧ j = t0 + k * z ∧ (i + z = j ∧ 0 < k ∨ i = 0 ∧ k = 0) ∧ i ≤ n ∧ S = beV (s.data.toList.take i) % M ∧ IHolds wr b0 73 [.int .u64 0, .int .u64 0, .int .u64 0, .int .u64 0] ∧ IHolds wr (b0 + 1) 73 (us (ws4 S)) ∧ FH wr g o Wd M low one sq ∧ Below w.heap.size w wr)
  case atStart => exact ⟨0, 0, t0, 0, by omega, rfl, rfl, by omega, Or.inr ⟨rfl, rfl⟩, by omega, by simp [beV], Jr.out, Js.out, F.out, B.out⟩
  case round =>
    clear Jr Js F B
    obtain ⟨k, i, j, S, hk, rfl, rfl, hj, hij, hin, hS, hR, hA, hF, hB⟩ := hrel
    have Jr : Hid (IHolds wr b0 73 [.int .u64 0, .int .u64 0, .int .u64 0, .int .u64 0]) := hR
    have Js : Hid (IHolds wr (b0 + 1) 73 [U (w4 S 0), U (w4 S 1), U (w4 S 2), U (w4 S 3)]) := hA
    have F : Hid (FH wr g o Wd M low one sq) := hF
    have B : Hid (Below w.heap.size w wr) := hB
    have HS : Hid (S = beV (s.data.toList.take i) % M) := hS
    have Hij : Hid (i + z = j ∧ 0 < k ∨ i = 0 ∧ k = 0) := hij
    have Hj : Hid (j = t0 + k * z) := hj
    have Hk : Hid (gk + k = n / z + 1) := hk
    clear hR hA hF hB hS
    by_cases hjn : j ≤ n
    · have jl : (j : Int) ≤ (n : Int) := by omega
      have ilj : i ≤ j := by rcases hij with h | h <;> omega
      have ijz : j - i ≤ z := by rcases hij with ⟨h, _⟩ | ⟨h, h2⟩
                                 · omega
                                 · rw [h2] at hj; omega
      have il2 : (i : Int) ≤ (j : Int) := by omega
      have S9 : S < M := by rw [HS.out]; exact Nat.mod_lt _ HM0.out
      have C1 := CN.out wr i j ilj hjn (by omega)
      obtain ⟨p, hp⟩ : ∃ p, p = numS (s.extract i j) := ⟨_, rfl⟩
      rw [← hp] at C1
      have p9 : p < BB ^ Wd := by
        rw [HBW.out, hp]
        have h1 := numS_lt (s.extract i j)
        rw [size_extract s i j (by omega)] at h1
        exact Nat.lt_of_lt_of_le h1 (Nat.pow_le_pow_right (by omega) ijz)
      have HS2 : Hid (belowN M (S * BB ^ Wd % M + p % M) = beV (s.data.toList.take j) % M) := by
        have h := red_step (l := s.data.toList) (M := M) (Wd := Wd) (i := i) (j := j) (S := S) HM0.out ilj (by rw [HN.out]; exact hjn) HS.out (by have := Hz.out; rcases Hij.out with h | h <;> omega)
        rw [← numS_extract, ← hp] at h
        exact h
      have CS2 : Hid (∀ W, FH W g o Wd M low one sq → Calls Tryz.prog 109 #[.pointer (some ⟨g, o, none⟩), .agg #[U (w4 S 0), U (w4 S 1), U (w4 S 2), U (w4 S 3)], .agg #[U (w4 sq 0), U (w4 sq 1), U (w4 sq 2), U (w4 sq 3)]] W fun e w' => e = .returned (A4 (S * BB ^ Wd % M)) ∧ Below W.heap.size W w') := fun W hF => CS.out W S hF S9
      have CO2 : Hid (∀ W, FH W g o Wd M low one sq → Calls Tryz.prog 109 #[.pointer (some ⟨g, o, none⟩), .agg #[U (w4 p 0), U (w4 p 1), U (w4 p 2), U (w4 p 3)], .agg #[U (w4 one 0), U (w4 one 1), U (w4 one 2), U (w4 one 3)]] W fun e w' => e = .returned (A4 (p % M)) ∧ Below W.heap.size W w') := fun W hF => CO.out W p hF p9
      have CP2 : Hid (∀ W, FH W g o Wd M low one sq → Calls Tryz.prog 141 #[.pointer (some ⟨g, o, none⟩), A4 (S * BB ^ Wd % M), A4 (p % M)] W fun e w' => e = .returned (A4 (belowN M (S * BB ^ Wd % M + p % M))) ∧ Below W.heap.size W w') := fun W hF => CP.out W _ _ hF (Nat.mod_lt _ HM0.out) (Nat.mod_lt _ HM0.out)
      have HSz : Hid (belowN M (S * BB ^ Wd % M + p % M) < M) := by show _ < _; rw [HS2.out]; exact Nat.mod_lt _ HM0.out
      generalize belowN M (S * BB ^ Wd % M + p % M) = S' at *
      generalize A4 (S * BB ^ Wd % M) = xS at *
      generalize A4 (p % M) = xP at *
      have CP3 : Hid (∀ W, FH W g o Wd M low one sq → Calls Tryz.prog 141 #[.pointer (some ⟨g, o, none⟩), xS, xP] W fun e w' => e = .returned (.agg #[U (w4 S' 0), U (w4 S' 1), U (w4 S' 2), U (w4 S' 3)]) ∧ Below W.heap.size W w') := CP2
      have C1' : Hid (Calls Tryz.prog 63 #[.string (s.extract i j)] wr fun e w' => e = .returned (.agg #[U (w4 p 0), U (w4 p 1), U (w4 p 2), U (w4 p 3)]) ∧ Below wr.heap.size wr w') := C1
      clear C1 hp hij hj CN CS CO CP p9 S9 hk CP2
      have HG0 : k ≤ n / z := by
        have h1 := Hdm.out
        have h2 := Hj.out
        rcases Nat.lt_or_ge (n / z) k with h | h
        · exfalso
          have h3 : z * (n / z + 1) ≤ z * k := Nat.mul_le_mul_left _ h
          rw [Nat.mul_add, Nat.mul_one, Nat.mul_comm z k] at h3
          omega
        · exact h
      have HG : Hid (gk - 1 < gk) := by have := Hk.out; show _ < _; omega
      have HG1 : Hid (gk - 1 + (k + 1) = n / z + 1) := by have := Hk.out; show _ = _; omega
      have HG2 : Hid (j + z = t0 + (k + 1) * z) := by have := Hj.out; show _ = _; rw [Nat.add_mul]; omega
      clear HG0
      go_wp2_with fail
      refine C1'.out.mono ?_
      rintro e V1 ⟨rfl, hb⟩
      replace F := aF F hb
      replace B := aB B hb
      replace Jr := aJ Jr hb
      replace Js := aJ Js hb
      clear hb
      clear C1'
      have neF_d : Hid (g ≠ V1.heap.size) := F.out.ne
      have hb := nB V1 (.cells #[U (w4 p 0), U (w4 p 1), U (w4 p 2), U (w4 p 3)] 73)
      have Jd : Hid (IHolds (V1.alloc (.cells #[U (w4 p 0), U (w4 p 1), U (w4 p 2), U (w4 p 3)] 73)) V1.heap.size 73 [U (w4 p 0), U (w4 p 1), U (w4 p 2), U (w4 p 3)]) := IHolds.new _ _ _
      have ne_r_d := nJ Jr
      have ne_s_d := nJ Js
      have ge_d : Hid (w.heap.size ≤ V1.heap.size) := B.out.size
      replace F := aF F hb
      replace B := aB B hb
      replace Jr := aJ Jr hb
      replace Js := aJ Js hb
      clear hb
      go_wp2_with fail
      generalize (V1.alloc (.cells #[U (w4 p 0), U (w4 p 1), U (w4 p 2), U (w4 p 3)] 73)) = U1 at *
      generalize V1.heap.size = b2 at *
      have neF_s : Hid (g ≠ b0 + 1) := by show _ ≠ _; omega
      have ge_s : Hid (w.heap.size ≤ b0 + 1) := by show _ ≤ _; rw [← Hb0.out]; omega
      have hb := dB U1
      replace F := aF F hb
      replace B := aB B hb
      replace Jr := aJ Jr hb
      replace Js := aJ Js hb
      replace Jd := aJ Jd hb
      clear hb
      refine wp_region_held_drew (S := fun W => (IHolds W (b2) 73 [U (w4 p 0), U (w4 p 1), U (w4 p 2), U (w4 p 3)]) ∧ (FH W g o Wd M low one sq)) (by kernel_rfl) ⟨Jd.out, F.out⟩ (fun hHeld1 => ?_)
      generalize U1.drew = U3 at *
      refine tk (i := 0) (v := .pointer (some ⟨g, o, none⟩)) rfl (by kernel_rfl) (fun _ _ _ h => h) rfl ?_ hHeld1 ?_
      · intro W hS; go_simp
      simp only [Act.put, y1, y2, y3, y4, y5, y6, y7]
      refine tk (i := 1) (v := .pointer (some ⟨g, o, none⟩)) rfl (by kernel_rfl) (fun _ _ _ h => h) rfl ?_ hHeld1 ?_
      · intro W hS; go_simp
      simp only [Act.put, y1, y2, y3, y4, y5, y6, y7]
      refine tk (i := 3) (v := .pointer (some ⟨g, o, none⟩)) rfl (by kernel_rfl) (fun _ _ _ h => h) rfl ?_ hHeld1 ?_
      · intro W hS; go_simp
      simp only [Act.put, y1, y2, y3, y4, y5, y6, y7]
      refine tk (i := 8) (v := .pointer (some ⟨g, o, none⟩)) rfl (by kernel_rfl) (fun _ _ _ h => h) rfl ?_ hHeld1 ?_
      · intro W hS; go_simp
      simp only [Act.put, y1, y2, y3, y4, y5, y6, y7]
      refine tk (i := 9) (v := .agg #[U (w4 p 0), U (w4 p 1), U (w4 p 2), U (w4 p 3)]) rfl (by kernel_rfl) (fun _ _ _ h => h) rfl ?_ hHeld1 ?_
      · intro W hS; have zd_0 : W.cell? ⟨b2, 0, none⟩ = some (U (w4 p 0)) := IHolds.cell (l := [U (w4 p 0), U (w4 p 1), U (w4 p 2), U (w4 p 3)]) (t := 73) (b := b2) (w := W) (hS.1) 0 (by simp); have zd_1 : W.cell? ⟨b2, 1, none⟩ = some (U (w4 p 1)) := IHolds.cell (l := [U (w4 p 0), U (w4 p 1), U (w4 p 2), U (w4 p 3)]) (t := 73) (b := b2) (w := W) (hS.1) 1 (by simp); have zd_2 : W.cell? ⟨b2, 2, none⟩ = some (U (w4 p 2)) := IHolds.cell (l := [U (w4 p 0), U (w4 p 1), U (w4 p 2), U (w4 p 3)]) (t := 73) (b := b2) (w := W) (hS.1) 2 (by simp); have zd_3 : W.cell? ⟨b2, 3, none⟩ = some (U (w4 p 3)) := IHolds.cell (l := [U (w4 p 0), U (w4 p 1), U (w4 p 2), U (w4 p 3)]) (t := 73) (b := b2) (w := W) (hS.1) 3 (by simp); go_simp
      simp only [Act.put, y1, y2, y3, y4, y5, y6, y7]
      refine tk (i := 10) (v := .pointer (some ⟨g, o, none⟩)) rfl (by kernel_rfl) (fun _ _ _ h => h) rfl ?_ hHeld1 ?_
      · intro W hS; go_simp
      simp only [Act.put, y1, y2, y3, y4, y5, y6, y7]
      refine tk (i := 4) (v := .pointer (some ⟨g, o, none⟩)) rfl (by kernel_rfl) (fun _ _ _ h => h) rfl ?_ hHeld1 ?_
      · intro W hS; go_simp
      simp only [Act.put, y1, y2, y3, y4, y5, y6, y7]
      refine tk (i := 11) (v := .pointer (some ⟨g, o, none⟩)) rfl (by kernel_rfl) (fun _ _ _ h => h) rfl ?_ hHeld1 ?_
      · intro W hS; go_simp
      simp only [Act.put, y1, y2, y3, y4, y5, y6, y7]
      refine tk (i := 5) (v := .pointer (some ⟨g, o + 10, none⟩)) rfl (by kernel_rfl) (fun _ _ _ h => h) rfl ?_ hHeld1 ?_
      · intro W hS; go_simp
      simp only [Act.put, y1, y2, y3, y4, y5, y6, y7]
      refine tk (i := 12) (v := .pointer (some ⟨g, o + 6, none⟩)) rfl (by kernel_rfl) (fun _ _ _ h => h) rfl ?_ hHeld1 ?_
      · intro W hS; go_simp
      simp only [Act.put, y1, y2, y3, y4, y5, y6, y7]
      refine tk (i := 6) (v := .agg #[U (w4 sq 0), U (w4 sq 1), U (w4 sq 2), U (w4 sq 3)]) rfl (by kernel_rfl) (fun _ _ _ h => h) rfl ?_ hHeld1 ?_
      · intro W hS; have fz := hS.2; have fz0 := fz.c0; have fz1 := fz.m0; have fz2 := fz.m1; have fz3 := fz.m2; have fz4 := fz.m3; have fz5 := fz.lo; have fz6 := fz.o0; have fz7 := fz.o1; have fz8 := fz.o2; have fz9 := fz.o3; have fz10 := fz.s0; have fz11 := fz.s1; have fz12 := fz.s2; have fz13 := fz.s3; go_simp
      simp only [Act.put, y1, y2, y3, y4, y5, y6, y7]
      refine tk (i := 13) (v := .agg #[U (w4 one 0), U (w4 one 1), U (w4 one 2), U (w4 one 3)]) rfl (by kernel_rfl) (fun _ _ _ h => h) rfl ?_ hHeld1 ?_
      · intro W hS; have fz := hS.2; have fz0 := fz.c0; have fz1 := fz.m0; have fz2 := fz.m1; have fz3 := fz.m2; have fz4 := fz.m3; have fz5 := fz.lo; have fz6 := fz.o0; have fz7 := fz.o1; have fz8 := fz.o2; have fz9 := fz.o3; have fz10 := fz.s0; have fz11 := fz.s1; have fz12 := fz.s2; have fz13 := fz.s3; go_simp
      simp only [Act.put, y1, y2, y3, y4, y5, y6, y7]
      refine wpAnyH_ready (rs := [2]) (by kernel_rfl) (by simp) ?_
      refine AllReadyH.cons rfl (fun K hK => ?_) AllReadyH.nil
      clear hHeld1
      have zs_0 : U3.cell? ⟨b0 + 1, 0, none⟩ = some (U (w4 S 0)) := IHolds.cell (l := [U (w4 S 0), U (w4 S 1), U (w4 S 2), U (w4 S 3)]) (t := 73) (b := b0 + 1) (w := U3) (Js.out) 0 (by simp)
      have zs_1 : U3.cell? ⟨b0 + 1, 1, none⟩ = some (U (w4 S 1)) := IHolds.cell (l := [U (w4 S 0), U (w4 S 1), U (w4 S 2), U (w4 S 3)]) (t := 73) (b := b0 + 1) (w := U3) (Js.out) 1 (by simp)
      have zs_2 : U3.cell? ⟨b0 + 1, 2, none⟩ = some (U (w4 S 2)) := IHolds.cell (l := [U (w4 S 0), U (w4 S 1), U (w4 S 2), U (w4 S 3)]) (t := 73) (b := b0 + 1) (w := U3) (Js.out) 2 (by simp)
      have zs_3 : U3.cell? ⟨b0 + 1, 3, none⟩ = some (U (w4 S 3)) := IHolds.cell (l := [U (w4 S 0), U (w4 S 1), U (w4 S 2), U (w4 S 3)]) (t := 73) (b := b0 + 1) (w := U3) (Js.out) 3 (by simp)
      go_simp
      clear zs_0 zs_1 zs_2 zs_3
      refine hK.out _ _ (⟨Jd.out, F.out⟩) (fun hHeld2 => ?_)
      clear hK K
      try simp only [Act.put, y1, y2, y3, y4, y5, y6, y7]
      refine wpAnyH_ready (rs := [7]) (by kernel_rfl) (by simp) ?_
      refine AllReadyH.cons rfl (fun K hK => ?_) AllReadyH.nil
      clear hHeld2
      go_simp
      refine (CS2.out U3 F.out).mono ?_
      rintro e U4 ⟨rfl, hb⟩
      replace F := aF F hb
      replace B := aB B hb
      replace Jr := aJ Jr hb
      replace Js := aJ Js hb
      replace Jd := aJ Jd hb
      clear hb
      go_wp2_with fail
      refine hK.out _ _ (⟨Jd.out, F.out⟩) (fun hHeld3 => ?_)
      clear hK K
      try simp only [Act.put, y1, y2, y3, y4, y5, y6, y7]
      refine wpAnyH_ready (rs := [14]) (by kernel_rfl) (by simp) ?_
      refine AllReadyH.cons rfl (fun K hK => ?_) AllReadyH.nil
      clear hHeld3
      go_simp
      refine (CO2.out U4 F.out).mono ?_
      rintro e U5 ⟨rfl, hb⟩
      replace F := aF F hb
      replace B := aB B hb
      replace Jr := aJ Jr hb
      replace Js := aJ Js hb
      replace Jd := aJ Jd hb
      clear hb
      go_wp2_with fail
      refine hK.out _ _ (⟨Jd.out, F.out⟩) (fun hHeld4 => ?_)
      clear hK K
      try simp only [Act.put, y1, y2, y3, y4, y5, y6, y7]
      refine wpAnyH_ready (rs := [15]) (by kernel_rfl) (by simp) ?_
      refine AllReadyH.cons rfl (fun K hK => ?_) AllReadyH.nil
      clear hHeld4
      go_simp
      refine (CP3.out U5 F.out).mono ?_
      rintro e U6 ⟨rfl, hb⟩
      replace F := aF F hb
      replace B := aB B hb
      replace Jr := aJ Jr hb
      replace Js := aJ Js hb
      replace Jd := aJ Jd hb
      clear hb
      go_wp2_with fail
      refine hK.out _ _ (⟨Jd.out, F.out⟩) (fun hHeld5 => ?_)
      clear hK K
      try simp only [Act.put, y1, y2, y3, y4, y5, y6, y7]
      refine wpAnyH_ready (rs := [16]) (by kernel_rfl) (by simp) ?_
      refine AllReadyH.cons rfl (fun K hK => ?_) AllReadyH.nil
      clear hHeld5
      have zs_0 : U6.cell? ⟨b0 + 1, 0, none⟩ = some (U (w4 S 0)) := IHolds.cell (l := [U (w4 S 0), U (w4 S 1), U (w4 S 2), U (w4 S 3)]) (t := 73) (b := b0 + 1) (w := U6) (Js.out) 0 (by simp)
      have zs_1 : U6.cell? ⟨b0 + 1, 1, none⟩ = some (U (w4 S 1)) := IHolds.cell (l := [U (w4 S 0), U (w4 S 1), U (w4 S 2), U (w4 S 3)]) (t := 73) (b := b0 + 1) (w := U6) (Js.out) 1 (by simp)
      have zs_2 : U6.cell? ⟨b0 + 1, 2, none⟩ = some (U (w4 S 2)) := IHolds.cell (l := [U (w4 S 0), U (w4 S 1), U (w4 S 2), U (w4 S 3)]) (t := 73) (b := b0 + 1) (w := U6) (Js.out) 2 (by simp)
      have zs_3 : U6.cell? ⟨b0 + 1, 3, none⟩ = some (U (w4 S 3)) := IHolds.cell (l := [U (w4 S 0), U (w4 S 1), U (w4 S 2), U (w4 S 3)]) (t := 73) (b := b0 + 1) (w := U6) (Js.out) 3 (by simp)
      have f0 := fJ Js
      have hBut : But (b0 + 1) U6 ((((U6.setCell ⟨b0 + 1, 0, none⟩ (U (w4 S' 0))).setCell ⟨b0 + 1, 1, none⟩ (U (w4 S' 1))).setCell ⟨b0 + 1, 2, none⟩ (U (w4 S' 2))).setCell ⟨b0 + 1, 3, none⟩ (U (w4 S' 3))) := (((((But.refl _ U6).setCell 0 (U (w4 S' 0))).setCell 1 (U (w4 S' 1))).setCell 2 (U (w4 S' 2))).setCell 3 (U (w4 S' 3)))
      replace F := tF F hBut neF_s.out
      have I4 : Hid (IHolds _ (b0 + 1) 73 [U (w4 S' 0), U (w4 S' 1), U (w4 S' 2), U (w4 S' 3)]) := ((((Js.out.set 0 (U (w4 S' 0))).set 1 (U (w4 S' 1))).set 2 (U (w4 S' 2))).set 3 (U (w4 S' 3)))
      replace B : Hid (Below w.heap.size w ((((U6.setCell ⟨b0 + 1, 0, none⟩ (U (w4 S' 0))).setCell ⟨b0 + 1, 1, none⟩ (U (w4 S' 1))).setCell ⟨b0 + 1, 2, none⟩ (U (w4 S' 2))).setCell ⟨b0 + 1, 3, none⟩ (U (w4 S' 3)))) := ((((B.out.setCell (by first | exact Nat.le_refl _ | exact ge_s.out | (show w.heap.size ≤ b0 + 1; omega)) _).setCell (by first | exact Nat.le_refl _ | exact ge_s.out | (show w.heap.size ≤ b0 + 1; omega)) _).setCell (by first | exact Nat.le_refl _ | exact ge_s.out | (show w.heap.size ≤ b0 + 1; omega)) _).setCell (by first | exact Nat.le_refl _ | exact ge_s.out | (show w.heap.size ≤ b0 + 1; omega)) _)
      replace Jr := tJ Jr hBut (by omega)
      replace Jd := tJ Jd hBut (fun h => ne_s_d.out h.symm)
      replace Js := I4
      clear I4 hBut
      go_simp
      try go_wp2_with fail
      clear zs_0 zs_1 zs_2 zs_3
      clear f0
      generalize ((((U6.setCell ⟨b0 + 1, 0, none⟩ (U (w4 S' 0))).setCell ⟨b0 + 1, 1, none⟩ (U (w4 S' 1))).setCell ⟨b0 + 1, 2, none⟩ (U (w4 S' 2))).setCell ⟨b0 + 1, 3, none⟩ (U (w4 S' 3))) = U7 at *
      refine hK.out _ _ (⟨Jd.out, F.out⟩) (fun hHeld6 => ?_)
      clear hK K
      try simp only [Act.put, y1, y2, y3, y4, y5, y6, y7]
      refine wpAnyH_done (by kernel_rfl) ?_ _
      clear hHeld6
      have Jsx : Hid (IHolds U7 (b0 + 1) 73 (us (ws4 S'))) := Js.out
      clear Jd
      go_wp2_with fail
      go_roundg (gk - 1)
      case measure => exact HG.out
      case rel => exact ⟨k + 1, j, j + z, S', HG1.out, rfl, by go_num, HG2.out, Or.inl ⟨rfl, by omega⟩, hjn, HS2.out, Jr.out, Jsx.out, F.out, B.out⟩
    · have jl : ¬ (j : Int) ≤ (n : Int) := by omega
      have ein : i = n := by
        have h1 := Hdm.out
        have h2 := Hj.out
        have h5 : k = n / z + 1 := by
          have h6 := Hk.out
          rcases Nat.lt_or_ge k (n / z + 1) with h | h
          · exfalso
            have h3 : z * k ≤ z * (n / z) := Nat.mul_le_mul_left _ (by omega)
            rw [Nat.mul_comm z k] at h3
            omega
          · omega
        rcases hij with ⟨h, _⟩ | ⟨_, h⟩
        · rw [h5, Nat.add_mul, Nat.one_mul, Nat.mul_comm (n / z)] at h2
          omega
        · exact absurd (h.symm.trans h5) (Nat.succ_ne_zero _).symm
      have HE : Hid (S = numS s % M) := by
        show _ = _
        rw [HS.out, ein, ← HN.out, List.take_length]
        rfl
      clear hij hj hk ein
      have neF_r : Hid (g ≠ b0) := by show _ ≠ _; omega
      have ge_r : Hid (w.heap.size ≤ b0) := by show _ ≤ _; rw [← Hb0.out]; omega
      have Ks : Hid (IHolds wr (b0 + 1) 73 [U (w4 S 0), U (w4 S 1), U (w4 S 2), U (w4 S 3)]) := Js.out
      have zr_0 : wr.cell? ⟨b0, 0, none⟩ = some (.int .u64 0) := IHolds.cell (l := [.int .u64 0, .int .u64 0, .int .u64 0, .int .u64 0]) (t := 73) (b := b0) (w := wr) (Jr.out) 0 (by simp)
      have zr_1 : wr.cell? ⟨b0, 1, none⟩ = some (.int .u64 0) := IHolds.cell (l := [.int .u64 0, .int .u64 0, .int .u64 0, .int .u64 0]) (t := 73) (b := b0) (w := wr) (Jr.out) 1 (by simp)
      have zr_2 : wr.cell? ⟨b0, 2, none⟩ = some (.int .u64 0) := IHolds.cell (l := [.int .u64 0, .int .u64 0, .int .u64 0, .int .u64 0]) (t := 73) (b := b0) (w := wr) (Jr.out) 2 (by simp)
      have zr_3 : wr.cell? ⟨b0, 3, none⟩ = some (.int .u64 0) := IHolds.cell (l := [.int .u64 0, .int .u64 0, .int .u64 0, .int .u64 0]) (t := 73) (b := b0) (w := wr) (Jr.out) 3 (by simp)
      have f0 := fJ Jr
      have hBut : But (b0) wr ((((wr.setCell ⟨b0, 0, none⟩ (U (w4 S 0))).setCell ⟨b0, 1, none⟩ (U (w4 S 1))).setCell ⟨b0, 2, none⟩ (U (w4 S 2))).setCell ⟨b0, 3, none⟩ (U (w4 S 3))) := (((((But.refl _ wr).setCell 0 (U (w4 S 0))).setCell 1 (U (w4 S 1))).setCell 2 (U (w4 S 2))).setCell 3 (U (w4 S 3)))
      replace F := tF F hBut neF_r.out
      have I4 : Hid (IHolds _ (b0) 73 [U (w4 S 0), U (w4 S 1), U (w4 S 2), U (w4 S 3)]) := ((((Jr.out.set 0 (U (w4 S 0))).set 1 (U (w4 S 1))).set 2 (U (w4 S 2))).set 3 (U (w4 S 3)))
      replace B : Hid (Below w.heap.size w ((((wr.setCell ⟨b0, 0, none⟩ (U (w4 S 0))).setCell ⟨b0, 1, none⟩ (U (w4 S 1))).setCell ⟨b0, 2, none⟩ (U (w4 S 2))).setCell ⟨b0, 3, none⟩ (U (w4 S 3)))) := ((((B.out.setCell (by first | exact Nat.le_refl _ | exact ge_r.out | (show w.heap.size ≤ b0; omega)) _).setCell (by first | exact Nat.le_refl _ | exact ge_r.out | (show w.heap.size ≤ b0; omega)) _).setCell (by first | exact Nat.le_refl _ | exact ge_r.out | (show w.heap.size ≤ b0; omega)) _).setCell (by first | exact Nat.le_refl _ | exact ge_r.out | (show w.heap.size ≤ b0; omega)) _)
      replace Js := tJ Js hBut (by omega)
      replace Jr := I4
      clear I4 hBut
      have zs_0 : wr.cell? ⟨b0 + 1, 0, none⟩ = some (U (w4 S 0)) := IHolds.cell (l := [U (w4 S 0), U (w4 S 1), U (w4 S 2), U (w4 S 3)]) (t := 73) (b := b0 + 1) (w := wr) (Ks.out) 0 (by simp)
      have zs_1 : wr.cell? ⟨b0 + 1, 1, none⟩ = some (U (w4 S 1)) := IHolds.cell (l := [U (w4 S 0), U (w4 S 1), U (w4 S 2), U (w4 S 3)]) (t := 73) (b := b0 + 1) (w := wr) (Ks.out) 1 (by simp)
      have zs_2 : wr.cell? ⟨b0 + 1, 2, none⟩ = some (U (w4 S 2)) := IHolds.cell (l := [U (w4 S 0), U (w4 S 1), U (w4 S 2), U (w4 S 3)]) (t := 73) (b := b0 + 1) (w := wr) (Ks.out) 2 (by simp)
      have zs_3 : wr.cell? ⟨b0 + 1, 3, none⟩ = some (U (w4 S 3)) := IHolds.cell (l := [U (w4 S 0), U (w4 S 1), U (w4 S 2), U (w4 S 3)]) (t := 73) (b := b0 + 1) (w := wr) (Ks.out) 3 (by simp)
      go_wp2_with fail
      clear zs_0 zs_1 zs_2 zs_3
      clear Ks
      clear zr_0 zr_1 zr_2 zr_3
      clear f0
      generalize ((((wr.setCell ⟨b0, 0, none⟩ (U (w4 S 0))).setCell ⟨b0, 1, none⟩ (U (w4 S 1))).setCell ⟨b0, 2, none⟩ (U (w4 S 2))).setCell ⟨b0, 3, none⟩ (U (w4 S 3))) = U1 at *
      have E0 : Hid (U1.cell? ⟨b0, 0, none⟩ = some (U (w4 S 0))) := IHolds.cell (l := [U (w4 S 0), U (w4 S 1), U (w4 S 2), U (w4 S 3)]) (t := 73) (b := b0) (w := U1) Jr.out 0 (by simp)
      have E1 : Hid (U1.cell? ⟨b0, 1, none⟩ = some (U (w4 S 1))) := IHolds.cell (l := [U (w4 S 0), U (w4 S 1), U (w4 S 2), U (w4 S 3)]) (t := 73) (b := b0) (w := U1) Jr.out 1 (by simp)
      have E2 : Hid (U1.cell? ⟨b0, 2, none⟩ = some (U (w4 S 2))) := IHolds.cell (l := [U (w4 S 0), U (w4 S 1), U (w4 S 2), U (w4 S 3)]) (t := 73) (b := b0) (w := U1) Jr.out 2 (by simp)
      have E3 : Hid (U1.cell? ⟨b0, 3, none⟩ = some (U (w4 S 3))) := IHolds.cell (l := [U (w4 S 0), U (w4 S 1), U (w4 S 2), U (w4 S 3)]) (t := 73) (b := b0) (w := U1) Jr.out 3 (by simp)
      exact bodyPost_ret (v := .agg #[U (w4 S 0), U (w4 S 1), U (w4 S 2), U (w4 S 3)]) (by simp [results, Tryz.results122, go_sem, E0.out, E1.out, E2.out, E3.out]) rfl ⟨by rw [← HE.out]; rfl, B.out⟩
end Go.Proofs.YtmpiipcllgjhdaaGreatDoor
