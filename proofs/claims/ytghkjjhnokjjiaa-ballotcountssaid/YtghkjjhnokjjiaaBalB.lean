/- Ballot's Encrypt, Renew and Decrypt, and sigma's Public. -/
import Derived.Test.YtghkjjhnokjjiaaBalA
set_option linter.unusedSimpArgs false
set_option linter.unusedVariables false
set_option maxRecDepth 100000
namespace Go.Proofs.Ytghkjjhnokjjiaa
open Go.RowKit Go.Deep Go.PlainAid

set_option maxRecDepth 100000 in
set_option maxHeartbeats 2000000 in
theorem public5 {w : World} {z c : Int} {s b r : ByteArray} (C1 : Hid (∀ W, Calls Try.prog 17 #[.agg #[.int .i64 z]] W fun e w' => e = .returned (.string b) ∧ Below W.heap.size W w')) (C2 : Hid (∀ W, Calls Try.prog 10 #[.int .i64 z, .string b, .string s] W fun e w' => e = .returned (.tuple #[.string r, .int .i64 c]) ∧ Below W.heap.size W w')) :
    Calls Try.prog 5 #[.int .i64 z, .string s] w fun e w' => e = .returned (.tuple #[.string r, .int .i64 c]) ∧ Below w.heap.size w w' := by
  go_enter Try.func5, Try.ntmps5
  go_wp2_with (first
    | (go_at_call 17; refine (C1.out _).mono ?_; rintro e w1 ⟨rfl, hB1⟩; have B1 : Hid (Below w.heap.size w w1) := hB1; clear hB1)
    | (go_at_call 10; refine (C2.out _).mono ?_; rintro e w2 ⟨rfl, hB2⟩; have B2 : Hid (Below w.heap.size w w2) := B1.out.trans (hB2.mono B1.out.size); clear hB2))
  go_ret2
  exact ⟨rfl, B2.out⟩
set_option maxRecDepth 100000 in
set_option maxHeartbeats 2000000 in
theorem noCipher22 {w : World} {z : Int} {a b : ByteArray} (C1 : Hid (∀ W, Calls Try.prog 19 #[.agg #[.int .i64 z], .string a] W fun e w' => e = .returned (.bool false) ∧ Below W.heap.size W w')) (C2 : Hid (∀ W, Calls Try.prog 19 #[.agg #[.int .i64 z], .string b] W fun e w' => e = .returned (.bool false) ∧ Below W.heap.size W w')) :
    Calls Try.prog 22 #[.agg #[.int .i64 z], .agg #[.string a, .string b]] w fun e w' => e = .returned (.bool false) ∧ Below w.heap.size w w' := by
  go_enter Try.func22, Try.ntmps22
  go_wp2_with fail
  obtain ⟨U1, hU1⟩ : ∃ X, X = ((w.alloc (.cells #[.int .i64 z] 41)).alloc (.cells #[.string a, .string b] 26)) := ⟨_, rfl⟩
  have Jg : Hid (IHolds U1 (w.heap.size) 41 [.int .i64 z]) := by
    have q := IHolds.new w 41 [.int .i64 z]
    show IHolds _ _ _ _
    rw [hU1]
    exact (q.alloc _)
  have Ja : Hid (IHolds U1 (w.heap.size + 1) 26 [.string a, .string b]) := by
    have q := IHolds.new (w.alloc (.cells #[.int .i64 z] 41)) 26 [.string a, .string b]
    simp only [World.size_alloc, Nat.add_assoc, Nat.reduceAdd] at q
    show IHolds _ _ _ _
    rw [hU1]
    exact q
  have B : Hid (Below w.heap.size w U1) := by
    show Below _ _ _
    rw [hU1]
    exact (((Below.refl _ w).alloc (Nat.le_refl _) _).alloc (by simp only [World.size_alloc]; omega) _)
  rw [← hU1]
  clear hU1
  refine (C1.out U1).mono ?_
  rintro e U2 ⟨rfl, hb⟩
  replace B := aB B hb
  replace Jg := aJ Jg hb
  replace Ja := aJ Ja hb
  clear hb
  have zg_0 : U2.cell? ⟨w.heap.size, 0, none⟩ = some (.int .i64 z) := IHolds.cell (l := [.int .i64 z]) (t := 41) (b := w.heap.size) (w := U2) (Jg.out) 0 (by simp)
  obtain ⟨za_0, za_1⟩ := cJ Ja
  go_wp2_with fail
  clear zg_0 za_0 za_1
  refine (C2.out U2).mono ?_
  rintro e U3 ⟨rfl, hb⟩
  replace B := aB B hb
  replace Jg := aJ Jg hb
  replace Ja := aJ Ja hb
  clear hb
  go_wp2_with fail
  go_ret
  exact ⟨rfl, B.out⟩
set_option maxRecDepth 100000 in
set_option maxHeartbeats 2000000 in
theorem enc_none {w : World} {z c : Int} {key x n : ByteArray} (CG : Hid (∀ W, Calls Try.prog 18 #[.int .i64 z] W fun e w' => e = .returned (.tuple #[.agg #[.int .i64 z], .int .i64 c]) ∧ Below W.heap.size W w')) (hc : (c != 0) = true) :
    Calls Try.prog 6 #[.int .i64 z, .string key, .string x, .string n] w fun e w' => e = .returned (.tuple #[.agg #[.string ⟨#[]⟩, .string ⟨#[]⟩], .int .i64 c]) ∧ Below w.heap.size w w' := by
  go_enter Try.func6, Try.ntmps6
  go_wp2_with fail
  obtain ⟨U1, hU1⟩ : ∃ X, X = (w.alloc (.cells #[.string ⟨#[]⟩, .string ⟨#[]⟩] 26)) := ⟨_, rfl⟩
  have Jr : Hid (IHolds U1 (w.heap.size) 26 [.string ⟨#[]⟩, .string ⟨#[]⟩]) := by
    have q := IHolds.new w 26 [.string ⟨#[]⟩, .string ⟨#[]⟩]
    show IHolds _ _ _ _
    rw [hU1]
    exact q
  have B : Hid (Below w.heap.size w U1) := by
    show Below _ _ _
    rw [hU1]
    exact ((Below.refl _ w).alloc (Nat.le_refl _) _)
  rw [← hU1]
  clear hU1
  refine (CG.out U1).mono ?_
  rintro e U2 ⟨rfl, hb⟩
  replace B := aB B hb
  replace Jr := aJ Jr hb
  clear hb
  have hb := nB U2 (.cells #[.int .i64 z] 41)
  replace B := aB B hb
  replace Jr := aJ Jr hb
  clear hb
  obtain ⟨zr_0, zr_1⟩ := cJ Jr
  have f0 := fJ Jr
  have I4 : Hid (IHolds _ (w.heap.size) 26 [.string ⟨#[]⟩, .string ⟨#[]⟩]) := ((Jr.out.set 0 (.string ⟨#[]⟩)).set 1 (.string ⟨#[]⟩))
  replace B : Hid (Below w.heap.size w (((U2.alloc (.cells #[.int .i64 z] 41)).setCell ⟨w.heap.size, 0, none⟩ (.string ⟨#[]⟩)).setCell ⟨w.heap.size, 1, none⟩ (.string ⟨#[]⟩))) := ((B.out.setCell (Nat.le_refl _) _).setCell (Nat.le_refl _) _)
  replace Jr := I4
  go_wp2_with fail
  clear zr_0 zr_1
  clear f0
  generalize (((U2.alloc (.cells #[.int .i64 z] 41)).setCell ⟨w.heap.size, 0, none⟩ (.string ⟨#[]⟩)).setCell ⟨w.heap.size, 1, none⟩ (.string ⟨#[]⟩)) = U3 at *
  have E0 : Hid (U3.cell? ⟨w.heap.size, 0, none⟩ = some (.string ⟨#[]⟩)) := IHolds.cell (l := [.string ⟨#[]⟩, .string ⟨#[]⟩]) (t := 26) (b := w.heap.size) (w := U3) Jr.out 0 (by simp)
  have E0 : Hid (U3.cell? ⟨w.heap.size, 0, none⟩ = some (.string ⟨#[]⟩)) := IHolds.cell (l := [.string ⟨#[]⟩, .string ⟨#[]⟩]) (t := 26) (b := w.heap.size) (w := U3) Jr.out 0 (by simp)
  have E1 : Hid (U3.cell? ⟨w.heap.size, 1, none⟩ = some (.string ⟨#[]⟩)) := IHolds.cell (l := [.string ⟨#[]⟩, .string ⟨#[]⟩]) (t := 26) (b := w.heap.size) (w := U3) Jr.out 1 (by simp)
  exact bodyPost_ret (v := .tuple #[.agg #[.string ⟨#[]⟩, .string ⟨#[]⟩], .int .i64 c]) (by simp [results, Try.results6, go_sem, E0.out, E1.out]) rfl ⟨rfl, B.out⟩
set_option maxRecDepth 100000 in
set_option maxHeartbeats 2000000 in
theorem enc_elem {w : World} {z : Int} {key x n : ByteArray} (CG : Hid (∀ W, Calls Try.prog 18 #[.int .i64 z] W fun e w' => e = .returned (.tuple #[.agg #[.int .i64 z], .int .i64 0]) ∧ Below W.heap.size W w')) (C1 : Hid (∀ W, Calls Try.prog 19 #[.agg #[.int .i64 z], .string key] W fun e w' => e = .returned (.bool true) ∧ Below W.heap.size W w')) :
    Calls Try.prog 6 #[.int .i64 z, .string key, .string x, .string n] w fun e w' => e = .returned (.tuple #[.agg #[.string ⟨#[]⟩, .string ⟨#[]⟩], .int .i64 7]) ∧ Below w.heap.size w w' := by
  go_enter Try.func6, Try.ntmps6
  go_wp2_with fail
  obtain ⟨U1, hU1⟩ : ∃ X, X = (w.alloc (.cells #[.string ⟨#[]⟩, .string ⟨#[]⟩] 26)) := ⟨_, rfl⟩
  have Jr : Hid (IHolds U1 (w.heap.size) 26 [.string ⟨#[]⟩, .string ⟨#[]⟩]) := by
    have q := IHolds.new w 26 [.string ⟨#[]⟩, .string ⟨#[]⟩]
    show IHolds _ _ _ _
    rw [hU1]
    exact q
  have B : Hid (Below w.heap.size w U1) := by
    show Below _ _ _
    rw [hU1]
    exact ((Below.refl _ w).alloc (Nat.le_refl _) _)
  rw [← hU1]
  clear hU1
  refine (CG.out U1).mono ?_
  rintro e U2 ⟨rfl, hb⟩
  replace B := aB B hb
  replace Jr := aJ Jr hb
  clear hb
  have hb := nB U2 (.cells #[.int .i64 z] 41)
  have Jg : Hid (IHolds (U2.alloc (.cells #[.int .i64 z] 41)) U2.heap.size 41 [.int .i64 z]) := IHolds.new _ _ _
  have ne_r_g := nJ Jr
  have ge_g : Hid (w.heap.size ≤ U2.heap.size) := B.out.size
  replace B := aB B hb
  replace Jr := aJ Jr hb
  clear hb
  go_wp2_with fail
  generalize (U2.alloc (.cells #[.int .i64 z] 41)) = U3 at *
  generalize U2.heap.size = b4 at *
  refine (C1.out U3).mono ?_
  rintro e U5 ⟨rfl, hb⟩
  replace B := aB B hb
  replace Jr := aJ Jr hb
  replace Jg := aJ Jg hb
  clear hb
  obtain ⟨zr_0, zr_1⟩ := cJ Jr
  have f0 := fJ Jr
  have hBut : But (w.heap.size) U5 ((U5.setCell ⟨w.heap.size, 0, none⟩ (.string ⟨#[]⟩)).setCell ⟨w.heap.size, 1, none⟩ (.string ⟨#[]⟩)) := (((But.refl _ U5).setCell 0 (.string ⟨#[]⟩)).setCell 1 (.string ⟨#[]⟩))
  have I4 : Hid (IHolds _ (w.heap.size) 26 [.string ⟨#[]⟩, .string ⟨#[]⟩]) := ((Jr.out.set 0 (.string ⟨#[]⟩)).set 1 (.string ⟨#[]⟩))
  replace B : Hid (Below w.heap.size w ((U5.setCell ⟨w.heap.size, 0, none⟩ (.string ⟨#[]⟩)).setCell ⟨w.heap.size, 1, none⟩ (.string ⟨#[]⟩))) := ((B.out.setCell (by first | exact Nat.le_refl _ | exact ge_r.out | (show w.heap.size ≤ w.heap.size; omega)) _).setCell (by first | exact Nat.le_refl _ | exact ge_r.out | (show w.heap.size ≤ w.heap.size; omega)) _)
  replace Jg := tJ Jg hBut (fun h => ne_r_g.out h.symm)
  replace Jr := I4
  clear I4 hBut
  go_wp2_with fail
  clear zr_0 zr_1
  clear f0
  generalize ((U5.setCell ⟨w.heap.size, 0, none⟩ (.string ⟨#[]⟩)).setCell ⟨w.heap.size, 1, none⟩ (.string ⟨#[]⟩)) = U6 at *
  have E0 : Hid (U6.cell? ⟨w.heap.size, 0, none⟩ = some (.string ⟨#[]⟩)) := IHolds.cell (l := [.string ⟨#[]⟩, .string ⟨#[]⟩]) (t := 26) (b := w.heap.size) (w := U6) Jr.out 0 (by simp)
  have E1 : Hid (U6.cell? ⟨w.heap.size, 1, none⟩ = some (.string ⟨#[]⟩)) := IHolds.cell (l := [.string ⟨#[]⟩, .string ⟨#[]⟩]) (t := 26) (b := w.heap.size) (w := U6) Jr.out 1 (by simp)
  exact bodyPost_ret (v := .tuple #[.agg #[.string ⟨#[]⟩, .string ⟨#[]⟩], .int .i64 7]) (by simp [results, Try.results6, go_sem, E0.out, E1.out]) rfl ⟨rfl, B.out⟩
set_option maxRecDepth 100000 in
set_option maxHeartbeats 2000000 in
theorem enc_sc1 {w : World} {z : Int} {key x n : ByteArray} (CG : Hid (∀ W, Calls Try.prog 18 #[.int .i64 z] W fun e w' => e = .returned (.tuple #[.agg #[.int .i64 z], .int .i64 0]) ∧ Below W.heap.size W w')) (C1 : Hid (∀ W, Calls Try.prog 19 #[.agg #[.int .i64 z], .string key] W fun e w' => e = .returned (.bool false) ∧ Below W.heap.size W w')) (C2 : Hid (∀ W, Calls Try.prog 20 #[.agg #[.int .i64 z], .string x] W fun e w' => e = .returned (.bool true) ∧ Below W.heap.size W w')) :
    Calls Try.prog 6 #[.int .i64 z, .string key, .string x, .string n] w fun e w' => e = .returned (.tuple #[.agg #[.string ⟨#[]⟩, .string ⟨#[]⟩], .int .i64 6]) ∧ Below w.heap.size w w' := by
  go_enter Try.func6, Try.ntmps6
  go_wp2_with fail
  obtain ⟨U1, hU1⟩ : ∃ X, X = (w.alloc (.cells #[.string ⟨#[]⟩, .string ⟨#[]⟩] 26)) := ⟨_, rfl⟩
  have Jr : Hid (IHolds U1 (w.heap.size) 26 [.string ⟨#[]⟩, .string ⟨#[]⟩]) := by
    have q := IHolds.new w 26 [.string ⟨#[]⟩, .string ⟨#[]⟩]
    show IHolds _ _ _ _
    rw [hU1]
    exact q
  have B : Hid (Below w.heap.size w U1) := by
    show Below _ _ _
    rw [hU1]
    exact ((Below.refl _ w).alloc (Nat.le_refl _) _)
  rw [← hU1]
  clear hU1
  refine (CG.out U1).mono ?_
  rintro e U2 ⟨rfl, hb⟩
  replace B := aB B hb
  replace Jr := aJ Jr hb
  clear hb
  have hb := nB U2 (.cells #[.int .i64 z] 41)
  have Jg : Hid (IHolds (U2.alloc (.cells #[.int .i64 z] 41)) U2.heap.size 41 [.int .i64 z]) := IHolds.new _ _ _
  have ne_r_g := nJ Jr
  have ge_g : Hid (w.heap.size ≤ U2.heap.size) := B.out.size
  replace B := aB B hb
  replace Jr := aJ Jr hb
  clear hb
  go_wp2_with fail
  generalize (U2.alloc (.cells #[.int .i64 z] 41)) = U3 at *
  generalize U2.heap.size = b4 at *
  refine (C1.out U3).mono ?_
  rintro e U5 ⟨rfl, hb⟩
  replace B := aB B hb
  replace Jr := aJ Jr hb
  replace Jg := aJ Jg hb
  clear hb
  have zg_0 : U5.cell? ⟨b4, 0, none⟩ = some (.int .i64 z) := IHolds.cell (l := [.int .i64 z]) (t := 41) (b := b4) (w := U5) (Jg.out) 0 (by simp)
  go_wp2_with fail
  clear zg_0
  refine (C2.out U5).mono ?_
  rintro e U6 ⟨rfl, hb⟩
  replace B := aB B hb
  replace Jr := aJ Jr hb
  replace Jg := aJ Jg hb
  clear hb
  obtain ⟨zr_0, zr_1⟩ := cJ Jr
  have f0 := fJ Jr
  have hBut : But (w.heap.size) U6 ((U6.setCell ⟨w.heap.size, 0, none⟩ (.string ⟨#[]⟩)).setCell ⟨w.heap.size, 1, none⟩ (.string ⟨#[]⟩)) := (((But.refl _ U6).setCell 0 (.string ⟨#[]⟩)).setCell 1 (.string ⟨#[]⟩))
  have I4 : Hid (IHolds _ (w.heap.size) 26 [.string ⟨#[]⟩, .string ⟨#[]⟩]) := ((Jr.out.set 0 (.string ⟨#[]⟩)).set 1 (.string ⟨#[]⟩))
  replace B : Hid (Below w.heap.size w ((U6.setCell ⟨w.heap.size, 0, none⟩ (.string ⟨#[]⟩)).setCell ⟨w.heap.size, 1, none⟩ (.string ⟨#[]⟩))) := ((B.out.setCell (by first | exact Nat.le_refl _ | exact ge_r.out | (show w.heap.size ≤ w.heap.size; omega)) _).setCell (by first | exact Nat.le_refl _ | exact ge_r.out | (show w.heap.size ≤ w.heap.size; omega)) _)
  replace Jg := tJ Jg hBut (fun h => ne_r_g.out h.symm)
  replace Jr := I4
  clear I4 hBut
  go_wp2_with fail
  clear zr_0 zr_1
  clear f0
  generalize ((U6.setCell ⟨w.heap.size, 0, none⟩ (.string ⟨#[]⟩)).setCell ⟨w.heap.size, 1, none⟩ (.string ⟨#[]⟩)) = U7 at *
  have E0 : Hid (U7.cell? ⟨w.heap.size, 0, none⟩ = some (.string ⟨#[]⟩)) := IHolds.cell (l := [.string ⟨#[]⟩, .string ⟨#[]⟩]) (t := 26) (b := w.heap.size) (w := U7) Jr.out 0 (by simp)
  have E1 : Hid (U7.cell? ⟨w.heap.size, 1, none⟩ = some (.string ⟨#[]⟩)) := IHolds.cell (l := [.string ⟨#[]⟩, .string ⟨#[]⟩]) (t := 26) (b := w.heap.size) (w := U7) Jr.out 1 (by simp)
  exact bodyPost_ret (v := .tuple #[.agg #[.string ⟨#[]⟩, .string ⟨#[]⟩], .int .i64 6]) (by simp [results, Try.results6, go_sem, E0.out, E1.out]) rfl ⟨rfl, B.out⟩
set_option maxRecDepth 100000 in
set_option maxHeartbeats 2000000 in
theorem enc_sc2 {w : World} {z : Int} {key x n : ByteArray} (CG : Hid (∀ W, Calls Try.prog 18 #[.int .i64 z] W fun e w' => e = .returned (.tuple #[.agg #[.int .i64 z], .int .i64 0]) ∧ Below W.heap.size W w')) (C1 : Hid (∀ W, Calls Try.prog 19 #[.agg #[.int .i64 z], .string key] W fun e w' => e = .returned (.bool false) ∧ Below W.heap.size W w')) (C2 : Hid (∀ W, Calls Try.prog 20 #[.agg #[.int .i64 z], .string x] W fun e w' => e = .returned (.bool false) ∧ Below W.heap.size W w')) (C3 : Hid (∀ W, Calls Try.prog 20 #[.agg #[.int .i64 z], .string n] W fun e w' => e = .returned (.bool true) ∧ Below W.heap.size W w')) :
    Calls Try.prog 6 #[.int .i64 z, .string key, .string x, .string n] w fun e w' => e = .returned (.tuple #[.agg #[.string ⟨#[]⟩, .string ⟨#[]⟩], .int .i64 6]) ∧ Below w.heap.size w w' := by
  go_enter Try.func6, Try.ntmps6
  go_wp2_with fail
  obtain ⟨U1, hU1⟩ : ∃ X, X = (w.alloc (.cells #[.string ⟨#[]⟩, .string ⟨#[]⟩] 26)) := ⟨_, rfl⟩
  have Jr : Hid (IHolds U1 (w.heap.size) 26 [.string ⟨#[]⟩, .string ⟨#[]⟩]) := by
    have q := IHolds.new w 26 [.string ⟨#[]⟩, .string ⟨#[]⟩]
    show IHolds _ _ _ _
    rw [hU1]
    exact q
  have B : Hid (Below w.heap.size w U1) := by
    show Below _ _ _
    rw [hU1]
    exact ((Below.refl _ w).alloc (Nat.le_refl _) _)
  rw [← hU1]
  clear hU1
  refine (CG.out U1).mono ?_
  rintro e U2 ⟨rfl, hb⟩
  replace B := aB B hb
  replace Jr := aJ Jr hb
  clear hb
  have hb := nB U2 (.cells #[.int .i64 z] 41)
  have Jg : Hid (IHolds (U2.alloc (.cells #[.int .i64 z] 41)) U2.heap.size 41 [.int .i64 z]) := IHolds.new _ _ _
  have ne_r_g := nJ Jr
  have ge_g : Hid (w.heap.size ≤ U2.heap.size) := B.out.size
  replace B := aB B hb
  replace Jr := aJ Jr hb
  clear hb
  go_wp2_with fail
  generalize (U2.alloc (.cells #[.int .i64 z] 41)) = U3 at *
  generalize U2.heap.size = b4 at *
  refine (C1.out U3).mono ?_
  rintro e U5 ⟨rfl, hb⟩
  replace B := aB B hb
  replace Jr := aJ Jr hb
  replace Jg := aJ Jg hb
  clear hb
  have zg_0 : U5.cell? ⟨b4, 0, none⟩ = some (.int .i64 z) := IHolds.cell (l := [.int .i64 z]) (t := 41) (b := b4) (w := U5) (Jg.out) 0 (by simp)
  go_wp2_with fail
  clear zg_0
  refine (C2.out U5).mono ?_
  rintro e U6 ⟨rfl, hb⟩
  replace B := aB B hb
  replace Jr := aJ Jr hb
  replace Jg := aJ Jg hb
  clear hb
  have zg_0 : U6.cell? ⟨b4, 0, none⟩ = some (.int .i64 z) := IHolds.cell (l := [.int .i64 z]) (t := 41) (b := b4) (w := U6) (Jg.out) 0 (by simp)
  go_wp2_with fail
  clear zg_0
  refine (C3.out U6).mono ?_
  rintro e U7 ⟨rfl, hb⟩
  replace B := aB B hb
  replace Jr := aJ Jr hb
  replace Jg := aJ Jg hb
  clear hb
  obtain ⟨zr_0, zr_1⟩ := cJ Jr
  have f0 := fJ Jr
  have hBut : But (w.heap.size) U7 ((U7.setCell ⟨w.heap.size, 0, none⟩ (.string ⟨#[]⟩)).setCell ⟨w.heap.size, 1, none⟩ (.string ⟨#[]⟩)) := (((But.refl _ U7).setCell 0 (.string ⟨#[]⟩)).setCell 1 (.string ⟨#[]⟩))
  have I4 : Hid (IHolds _ (w.heap.size) 26 [.string ⟨#[]⟩, .string ⟨#[]⟩]) := ((Jr.out.set 0 (.string ⟨#[]⟩)).set 1 (.string ⟨#[]⟩))
  replace B : Hid (Below w.heap.size w ((U7.setCell ⟨w.heap.size, 0, none⟩ (.string ⟨#[]⟩)).setCell ⟨w.heap.size, 1, none⟩ (.string ⟨#[]⟩))) := ((B.out.setCell (by first | exact Nat.le_refl _ | exact ge_r.out | (show w.heap.size ≤ w.heap.size; omega)) _).setCell (by first | exact Nat.le_refl _ | exact ge_r.out | (show w.heap.size ≤ w.heap.size; omega)) _)
  replace Jg := tJ Jg hBut (fun h => ne_r_g.out h.symm)
  replace Jr := I4
  clear I4 hBut
  go_wp2_with fail
  clear zr_0 zr_1
  clear f0
  generalize ((U7.setCell ⟨w.heap.size, 0, none⟩ (.string ⟨#[]⟩)).setCell ⟨w.heap.size, 1, none⟩ (.string ⟨#[]⟩)) = U8 at *
  have E0 : Hid (U8.cell? ⟨w.heap.size, 0, none⟩ = some (.string ⟨#[]⟩)) := IHolds.cell (l := [.string ⟨#[]⟩, .string ⟨#[]⟩]) (t := 26) (b := w.heap.size) (w := U8) Jr.out 0 (by simp)
  have E1 : Hid (U8.cell? ⟨w.heap.size, 1, none⟩ = some (.string ⟨#[]⟩)) := IHolds.cell (l := [.string ⟨#[]⟩, .string ⟨#[]⟩]) (t := 26) (b := w.heap.size) (w := U8) Jr.out 1 (by simp)
  exact bodyPost_ret (v := .tuple #[.agg #[.string ⟨#[]⟩, .string ⟨#[]⟩], .int .i64 6]) (by simp [results, Try.results6, go_sem, E0.out, E1.out]) rfl ⟨rfl, B.out⟩
set_option maxRecDepth 100000 in
set_option maxHeartbeats 2000000 in
theorem enc_ok {w : World} {z : Int} {key x n p q : ByteArray} (CG : Hid (∀ W, Calls Try.prog 18 #[.int .i64 z] W fun e w' => e = .returned (.tuple #[.agg #[.int .i64 z], .int .i64 0]) ∧ Below W.heap.size W w')) (C1 : Hid (∀ W, Calls Try.prog 19 #[.agg #[.int .i64 z], .string key] W fun e w' => e = .returned (.bool false) ∧ Below W.heap.size W w')) (C2 : Hid (∀ W, Calls Try.prog 20 #[.agg #[.int .i64 z], .string x] W fun e w' => e = .returned (.bool false) ∧ Below W.heap.size W w')) (C3 : Hid (∀ W, Calls Try.prog 20 #[.agg #[.int .i64 z], .string n] W fun e w' => e = .returned (.bool false) ∧ Below W.heap.size W w')) (C4 : Hid (∀ W, Calls Try.prog 21 #[.agg #[.int .i64 z], .string key, .string x, .string n] W fun e w' => e = .returned (.agg #[.string p, .string q]) ∧ Below W.heap.size W w')) :
    Calls Try.prog 6 #[.int .i64 z, .string key, .string x, .string n] w fun e w' => e = .returned (.tuple #[.agg #[.string p, .string q], .int .i64 0]) ∧ Below w.heap.size w w' := by
  go_enter Try.func6, Try.ntmps6
  go_wp2_with fail
  obtain ⟨U1, hU1⟩ : ∃ X, X = (w.alloc (.cells #[.string ⟨#[]⟩, .string ⟨#[]⟩] 26)) := ⟨_, rfl⟩
  have Jr : Hid (IHolds U1 (w.heap.size) 26 [.string ⟨#[]⟩, .string ⟨#[]⟩]) := by
    have q := IHolds.new w 26 [.string ⟨#[]⟩, .string ⟨#[]⟩]
    show IHolds _ _ _ _
    rw [hU1]
    exact q
  have B : Hid (Below w.heap.size w U1) := by
    show Below _ _ _
    rw [hU1]
    exact ((Below.refl _ w).alloc (Nat.le_refl _) _)
  rw [← hU1]
  clear hU1
  refine (CG.out U1).mono ?_
  rintro e U2 ⟨rfl, hb⟩
  replace B := aB B hb
  replace Jr := aJ Jr hb
  clear hb
  have hb := nB U2 (.cells #[.int .i64 z] 41)
  have Jg : Hid (IHolds (U2.alloc (.cells #[.int .i64 z] 41)) U2.heap.size 41 [.int .i64 z]) := IHolds.new _ _ _
  have ne_r_g := nJ Jr
  have ge_g : Hid (w.heap.size ≤ U2.heap.size) := B.out.size
  replace B := aB B hb
  replace Jr := aJ Jr hb
  clear hb
  go_wp2_with fail
  generalize (U2.alloc (.cells #[.int .i64 z] 41)) = U3 at *
  generalize U2.heap.size = b4 at *
  refine (C1.out U3).mono ?_
  rintro e U5 ⟨rfl, hb⟩
  replace B := aB B hb
  replace Jr := aJ Jr hb
  replace Jg := aJ Jg hb
  clear hb
  have zg_0 : U5.cell? ⟨b4, 0, none⟩ = some (.int .i64 z) := IHolds.cell (l := [.int .i64 z]) (t := 41) (b := b4) (w := U5) (Jg.out) 0 (by simp)
  go_wp2_with fail
  clear zg_0
  refine (C2.out U5).mono ?_
  rintro e U6 ⟨rfl, hb⟩
  replace B := aB B hb
  replace Jr := aJ Jr hb
  replace Jg := aJ Jg hb
  clear hb
  have zg_0 : U6.cell? ⟨b4, 0, none⟩ = some (.int .i64 z) := IHolds.cell (l := [.int .i64 z]) (t := 41) (b := b4) (w := U6) (Jg.out) 0 (by simp)
  go_wp2_with fail
  clear zg_0
  refine (C3.out U6).mono ?_
  rintro e U7 ⟨rfl, hb⟩
  replace B := aB B hb
  replace Jr := aJ Jr hb
  replace Jg := aJ Jg hb
  clear hb
  have zg_0 : U7.cell? ⟨b4, 0, none⟩ = some (.int .i64 z) := IHolds.cell (l := [.int .i64 z]) (t := 41) (b := b4) (w := U7) (Jg.out) 0 (by simp)
  go_wp2_with fail
  clear zg_0
  refine (C4.out U7).mono ?_
  rintro e U8 ⟨rfl, hb⟩
  replace B := aB B hb
  replace Jr := aJ Jr hb
  replace Jg := aJ Jg hb
  clear hb
  obtain ⟨zr_0, zr_1⟩ := cJ Jr
  have f0 := fJ Jr
  have hBut : But (w.heap.size) U8 ((U8.setCell ⟨w.heap.size, 0, none⟩ (.string p)).setCell ⟨w.heap.size, 1, none⟩ (.string q)) := (((But.refl _ U8).setCell 0 (.string p)).setCell 1 (.string q))
  have I4 : Hid (IHolds _ (w.heap.size) 26 [.string p, .string q]) := ((Jr.out.set 0 (.string p)).set 1 (.string q))
  replace B : Hid (Below w.heap.size w ((U8.setCell ⟨w.heap.size, 0, none⟩ (.string p)).setCell ⟨w.heap.size, 1, none⟩ (.string q))) := ((B.out.setCell (by first | exact Nat.le_refl _ | exact ge_r.out | (show w.heap.size ≤ w.heap.size; omega)) _).setCell (by first | exact Nat.le_refl _ | exact ge_r.out | (show w.heap.size ≤ w.heap.size; omega)) _)
  replace Jg := tJ Jg hBut (fun h => ne_r_g.out h.symm)
  replace Jr := I4
  clear I4 hBut
  go_wp2_with fail
  clear zr_0 zr_1
  clear f0
  generalize ((U8.setCell ⟨w.heap.size, 0, none⟩ (.string p)).setCell ⟨w.heap.size, 1, none⟩ (.string q)) = U9 at *
  have E0 : Hid (U9.cell? ⟨w.heap.size, 0, none⟩ = some (.string p)) := IHolds.cell (l := [.string p, .string q]) (t := 26) (b := w.heap.size) (w := U9) Jr.out 0 (by simp)
  have E1 : Hid (U9.cell? ⟨w.heap.size, 1, none⟩ = some (.string q)) := IHolds.cell (l := [.string p, .string q]) (t := 26) (b := w.heap.size) (w := U9) Jr.out 1 (by simp)
  exact bodyPost_ret (v := .tuple #[.agg #[.string p, .string q], .int .i64 0]) (by simp [results, Try.results6, go_sem, E0.out, E1.out]) rfl ⟨rfl, B.out⟩
set_option maxRecDepth 100000 in
set_option maxHeartbeats 2000000 in
theorem dec_ok {w : World} {z : Int} {a b s r : ByteArray} (CG : Hid (∀ W, Calls Try.prog 18 #[.int .i64 z] W fun e w' => e = .returned (.tuple #[.agg #[.int .i64 z], .int .i64 0]) ∧ Below W.heap.size W w')) (C1 : Hid (∀ W, Calls Try.prog 20 #[.agg #[.int .i64 z], .string s] W fun e w' => e = .returned (.bool false) ∧ Below W.heap.size W w')) (C2 : Hid (∀ W, Calls Try.prog 22 #[.agg #[.int .i64 z], .agg #[.string a, .string b]] W fun e w' => e = .returned (.bool false) ∧ Below W.heap.size W w')) (C3 : Hid (∀ W, Calls Try.prog 25 #[.agg #[.int .i64 z], .string s, .agg #[.string a, .string b]] W fun e w' => e = .returned (.string r) ∧ Below W.heap.size W w')) :
    Calls Try.prog 8 #[.int .i64 z, .string s, .agg #[.string a, .string b]] w fun e w' => e = .returned (.tuple #[.string r, .int .i64 0]) ∧ Below w.heap.size w w' := by
  go_enter Try.func8, Try.ntmps8
  go_wp2_with fail
  obtain ⟨U1, hU1⟩ : ∃ X, X = (w.alloc (.cells #[.string a, .string b] 26)) := ⟨_, rfl⟩
  have Ja : Hid (IHolds U1 (w.heap.size) 26 [.string a, .string b]) := by
    have q := IHolds.new w 26 [.string a, .string b]
    show IHolds _ _ _ _
    rw [hU1]
    exact q
  have B : Hid (Below w.heap.size w U1) := by
    show Below _ _ _
    rw [hU1]
    exact ((Below.refl _ w).alloc (Nat.le_refl _) _)
  rw [← hU1]
  clear hU1
  refine (CG.out U1).mono ?_
  rintro e U2 ⟨rfl, hb⟩
  replace B := aB B hb
  replace Ja := aJ Ja hb
  clear hb
  have hb := nB U2 (.cells #[.int .i64 z] 41)
  have Jg : Hid (IHolds (U2.alloc (.cells #[.int .i64 z] 41)) U2.heap.size 41 [.int .i64 z]) := IHolds.new _ _ _
  have ne_a_g := nJ Ja
  have ge_g : Hid (w.heap.size ≤ U2.heap.size) := B.out.size
  replace B := aB B hb
  replace Ja := aJ Ja hb
  clear hb
  go_wp2_with fail
  generalize (U2.alloc (.cells #[.int .i64 z] 41)) = U3 at *
  generalize U2.heap.size = b4 at *
  refine (C1.out U3).mono ?_
  rintro e U5 ⟨rfl, hb⟩
  replace B := aB B hb
  replace Ja := aJ Ja hb
  replace Jg := aJ Jg hb
  clear hb
  have zg_0 : U5.cell? ⟨b4, 0, none⟩ = some (.int .i64 z) := IHolds.cell (l := [.int .i64 z]) (t := 41) (b := b4) (w := U5) (Jg.out) 0 (by simp)
  obtain ⟨za_0, za_1⟩ := cJ Ja
  go_wp2_with fail
  clear zg_0 za_0 za_1
  refine (C2.out U5).mono ?_
  rintro e U6 ⟨rfl, hb⟩
  replace B := aB B hb
  replace Ja := aJ Ja hb
  replace Jg := aJ Jg hb
  clear hb
  have zg_0 : U6.cell? ⟨b4, 0, none⟩ = some (.int .i64 z) := IHolds.cell (l := [.int .i64 z]) (t := 41) (b := b4) (w := U6) (Jg.out) 0 (by simp)
  obtain ⟨za_0, za_1⟩ := cJ Ja
  go_wp2_with fail
  clear zg_0 za_0 za_1
  refine (C3.out U6).mono ?_
  rintro e U7 ⟨rfl, hb⟩
  replace B := aB B hb
  replace Ja := aJ Ja hb
  replace Jg := aJ Jg hb
  clear hb
  go_wp2_with fail
  go_ret2
  exact ⟨rfl, B.out⟩
set_option maxRecDepth 100000 in
set_option maxHeartbeats 2000000 in
theorem renew_ok {w : World} {z : Int} {key n a b o u v p q : ByteArray} (CG : Hid (∀ W, Calls Try.prog 18 #[.int .i64 z] W fun e w' => e = .returned (.tuple #[.agg #[.int .i64 z], .int .i64 0]) ∧ Below W.heap.size W w')) (C1 : Hid (∀ W, Calls Try.prog 19 #[.agg #[.int .i64 z], .string key] W fun e w' => e = .returned (.bool false) ∧ Below W.heap.size W w')) (C2 : Hid (∀ W, Calls Try.prog 22 #[.agg #[.int .i64 z], .agg #[.string a, .string b]] W fun e w' => e = .returned (.bool false) ∧ Below W.heap.size W w')) (C3 : Hid (∀ W, Calls Try.prog 20 #[.agg #[.int .i64 z], .string n] W fun e w' => e = .returned (.bool false) ∧ Below W.heap.size W w')) (C4 : Hid (∀ W, Calls Try.prog 24 #[.agg #[.int .i64 z], .int .i64 0] W fun e w' => e = .returned (.string o) ∧ Below W.heap.size W w')) (C5 : Hid (∀ W, Calls Try.prog 21 #[.agg #[.int .i64 z], .string key, .string o, .string n] W fun e w' => e = .returned (.agg #[.string u, .string v]) ∧ Below W.heap.size W w')) (C6 : Hid (∀ W, Calls Try.prog 23 #[.agg #[.int .i64 z], .agg #[.string a, .string b], .agg #[.string u, .string v]] W fun e w' => e = .returned (.agg #[.string p, .string q]) ∧ Below W.heap.size W w')) :
    Calls Try.prog 7 #[.int .i64 z, .string key, .agg #[.string a, .string b], .string n] w fun e w' => e = .returned (.tuple #[.agg #[.string p, .string q], .int .i64 0]) ∧ Below w.heap.size w w' := by
  go_enter Try.func7, Try.ntmps7
  go_wp2_with fail
  obtain ⟨U1, hU1⟩ : ∃ X, X = ((w.alloc (.cells #[.string a, .string b] 26)).alloc (.cells #[.string ⟨#[]⟩, .string ⟨#[]⟩] 26)) := ⟨_, rfl⟩
  have Ja : Hid (IHolds U1 (w.heap.size) 26 [.string a, .string b]) := by
    have q := IHolds.new w 26 [.string a, .string b]
    show IHolds _ _ _ _
    rw [hU1]
    exact (q.alloc _)
  have Jr : Hid (IHolds U1 (w.heap.size + 1) 26 [.string ⟨#[]⟩, .string ⟨#[]⟩]) := by
    have q := IHolds.new (w.alloc (.cells #[.string a, .string b] 26)) 26 [.string ⟨#[]⟩, .string ⟨#[]⟩]
    simp only [World.size_alloc, Nat.add_assoc, Nat.reduceAdd] at q
    show IHolds _ _ _ _
    rw [hU1]
    exact q
  have B : Hid (Below w.heap.size w U1) := by
    show Below _ _ _
    rw [hU1]
    exact (((Below.refl _ w).alloc (Nat.le_refl _) _).alloc (by simp only [World.size_alloc]; omega) _)
  rw [← hU1]
  clear hU1
  refine (CG.out U1).mono ?_
  rintro e U2 ⟨rfl, hb⟩
  replace B := aB B hb
  replace Ja := aJ Ja hb
  replace Jr := aJ Jr hb
  clear hb
  have hb := nB U2 (.cells #[.int .i64 z] 41)
  have Jg : Hid (IHolds (U2.alloc (.cells #[.int .i64 z] 41)) U2.heap.size 41 [.int .i64 z]) := IHolds.new _ _ _
  have ne_a_g := nJ Ja
  have ne_r_g := nJ Jr
  have ge_g : Hid (w.heap.size ≤ U2.heap.size) := B.out.size
  replace B := aB B hb
  replace Ja := aJ Ja hb
  replace Jr := aJ Jr hb
  clear hb
  go_wp2_with fail
  generalize (U2.alloc (.cells #[.int .i64 z] 41)) = U3 at *
  generalize U2.heap.size = b4 at *
  refine (C1.out U3).mono ?_
  rintro e U5 ⟨rfl, hb⟩
  replace B := aB B hb
  replace Ja := aJ Ja hb
  replace Jr := aJ Jr hb
  replace Jg := aJ Jg hb
  clear hb
  have zg_0 : U5.cell? ⟨b4, 0, none⟩ = some (.int .i64 z) := IHolds.cell (l := [.int .i64 z]) (t := 41) (b := b4) (w := U5) (Jg.out) 0 (by simp)
  obtain ⟨za_0, za_1⟩ := cJ Ja
  go_wp2_with fail
  clear zg_0 za_0 za_1
  refine (C2.out U5).mono ?_
  rintro e U6 ⟨rfl, hb⟩
  replace B := aB B hb
  replace Ja := aJ Ja hb
  replace Jr := aJ Jr hb
  replace Jg := aJ Jg hb
  clear hb
  have zg_0 : U6.cell? ⟨b4, 0, none⟩ = some (.int .i64 z) := IHolds.cell (l := [.int .i64 z]) (t := 41) (b := b4) (w := U6) (Jg.out) 0 (by simp)
  obtain ⟨za_0, za_1⟩ := cJ Ja
  go_wp2_with fail
  clear zg_0 za_0 za_1
  refine (C3.out U6).mono ?_
  rintro e U7 ⟨rfl, hb⟩
  replace B := aB B hb
  replace Ja := aJ Ja hb
  replace Jr := aJ Jr hb
  replace Jg := aJ Jg hb
  clear hb
  go_wp2_with fail
  have hb := dB U7
  replace B := aB B hb
  replace Ja := aJ Ja hb
  replace Jr := aJ Jr hb
  replace Jg := aJ Jg hb
  clear hb
  refine wp_region_held_drew (S := fun W => (IHolds W (w.heap.size) 26 [.string a, .string b]) ∧ (IHolds W (b4) 41 [.int .i64 z])) (by kernel_rfl) ⟨Ja.out, Jg.out⟩ (fun hHeld1 => ?_)
  generalize U7.drew = U8 at *
  refine tk (i := 0) (v := .agg #[.int .i64 z]) rfl (by kernel_rfl) (fun _ _ _ h => h) rfl ?_ hHeld1 ?_
  · intro W hS; have zg_0 : W.cell? ⟨b4, 0, none⟩ = some (.int .i64 z) := IHolds.cell (l := [.int .i64 z]) (t := 41) (b := b4) (w := W) (hS.2) 0 (by simp); go_simp
  simp only [Act.put, y1, y2, y3, y4, y5, y6, y7]
  refine tk (i := 1) (v := .agg #[.string a, .string b]) rfl (by kernel_rfl) (fun _ _ _ h => h) rfl ?_ hHeld1 ?_
  · intro W hS; obtain ⟨za_0, za_1⟩ := c2 hS.1; go_simp
  simp only [Act.put, y1, y2, y3, y4, y5, y6, y7]
  refine tk (i := 2) (v := .agg #[.int .i64 z]) rfl (by kernel_rfl) (fun _ _ _ h => h) rfl ?_ hHeld1 ?_
  · intro W hS; have zg_0 : W.cell? ⟨b4, 0, none⟩ = some (.int .i64 z) := IHolds.cell (l := [.int .i64 z]) (t := 41) (b := b4) (w := W) (hS.2) 0 (by simp); go_simp
  simp only [Act.put, y1, y2, y3, y4, y5, y6, y7]
  refine tk (i := 3) (v := .string key) rfl (by kernel_rfl) (fun _ _ _ h => h) rfl ?_ hHeld1 ?_
  · intro W hS; go_simp
  simp only [Act.put, y1, y2, y3, y4, y5, y6, y7]
  refine tk (i := 4) (v := .agg #[.int .i64 z]) rfl (by kernel_rfl) (fun _ _ _ h => h) rfl ?_ hHeld1 ?_
  · intro W hS; have zg_0 : W.cell? ⟨b4, 0, none⟩ = some (.int .i64 z) := IHolds.cell (l := [.int .i64 z]) (t := 41) (b := b4) (w := W) (hS.2) 0 (by simp); go_simp
  simp only [Act.put, y1, y2, y3, y4, y5, y6, y7]
  refine tk (i := 6) (v := .string n) rfl (by kernel_rfl) (fun _ _ _ h => h) rfl ?_ hHeld1 ?_
  · intro W hS; go_simp
  simp only [Act.put, y1, y2, y3, y4, y5, y6, y7]
  refine wpAnyH_ready (rs := [5]) (by kernel_rfl) (by simp) ?_
  refine AllReadyH.cons rfl (fun K hK => ?_) AllReadyH.nil
  clear hHeld1
  go_simp
  refine (C4.out U8).mono ?_
  rintro e U9 ⟨rfl, hb⟩
  replace B := aB B hb
  replace Ja := aJ Ja hb
  replace Jr := aJ Jr hb
  replace Jg := aJ Jg hb
  clear hb
  go_wp2_with fail
  refine hK.out _ _ (⟨Ja.out, Jg.out⟩) (fun hHeld2 => ?_)
  clear hK K
  try simp only [Act.put, y1, y2, y3, y4, y5, y6, y7]
  refine wpAnyH_ready (rs := [7]) (by kernel_rfl) (by simp) ?_
  refine AllReadyH.cons rfl (fun K hK => ?_) AllReadyH.nil
  clear hHeld2
  go_simp
  refine (C5.out U9).mono ?_
  rintro e U10 ⟨rfl, hb⟩
  replace B := aB B hb
  replace Ja := aJ Ja hb
  replace Jr := aJ Jr hb
  replace Jg := aJ Jg hb
  clear hb
  go_wp2_with fail
  refine hK.out _ _ (⟨Ja.out, Jg.out⟩) (fun hHeld3 => ?_)
  clear hK K
  try simp only [Act.put, y1, y2, y3, y4, y5, y6, y7]
  refine wpAnyH_ready (rs := [8]) (by kernel_rfl) (by simp) ?_
  refine AllReadyH.cons rfl (fun K hK => ?_) AllReadyH.nil
  clear hHeld3
  go_simp
  refine (C6.out U10).mono ?_
  rintro e U11 ⟨rfl, hb⟩
  replace B := aB B hb
  replace Ja := aJ Ja hb
  replace Jr := aJ Jr hb
  replace Jg := aJ Jg hb
  clear hb
  go_wp2_with fail
  refine hK.out _ _ (⟨Ja.out, Jg.out⟩) (fun hHeld4 => ?_)
  clear hK K
  try simp only [Act.put, y1, y2, y3, y4, y5, y6, y7]
  refine wpAnyH_ready (rs := [9]) (by kernel_rfl) (by simp) ?_
  refine AllReadyH.cons rfl (fun K hK => ?_) AllReadyH.nil
  clear hHeld4
  obtain ⟨zr_0, zr_1⟩ := cJ Jr
  have f0 := fJ Jr
  have hBut : But (w.heap.size + 1) U11 ((U11.setCell ⟨w.heap.size + 1, 0, none⟩ (.string p)).setCell ⟨w.heap.size + 1, 1, none⟩ (.string q)) := (((But.refl _ U11).setCell 0 (.string p)).setCell 1 (.string q))
  have I4 : Hid (IHolds _ (w.heap.size + 1) 26 [.string p, .string q]) := ((Jr.out.set 0 (.string p)).set 1 (.string q))
  replace B : Hid (Below w.heap.size w ((U11.setCell ⟨w.heap.size + 1, 0, none⟩ (.string p)).setCell ⟨w.heap.size + 1, 1, none⟩ (.string q))) := ((B.out.setCell (by first | exact Nat.le_refl _ | exact ge_r.out | (show w.heap.size ≤ w.heap.size + 1; omega)) _).setCell (by first | exact Nat.le_refl _ | exact ge_r.out | (show w.heap.size ≤ w.heap.size + 1; omega)) _)
  replace Ja := tJ Ja hBut (by omega)
  replace Jg := tJ Jg hBut (fun h => ne_r_g.out h.symm)
  replace Jr := I4
  clear I4 hBut
  go_simp
  try go_wp2_with fail
  clear zr_0 zr_1
  clear f0
  generalize ((U11.setCell ⟨w.heap.size + 1, 0, none⟩ (.string p)).setCell ⟨w.heap.size + 1, 1, none⟩ (.string q)) = U12 at *
  refine hK.out _ _ (⟨Ja.out, Jg.out⟩) (fun hHeld5 => ?_)
  clear hK K
  try simp only [Act.put, y1, y2, y3, y4, y5, y6, y7]
  refine tk (i := 10) (v := (.int .i64 0)) rfl (by kernel_rfl) (fun _ _ _ h => h) rfl ?_ hHeld5 ?_
  · intro W hS; go_simp
  simp only [Act.put, y1, y2, y3, y4, y5, y6, y7]
  refine wpAnyH_done (by kernel_rfl) ?_ _
  clear hHeld5
  go_wp2_with fail
  have E0 : Hid (U12.cell? ⟨w.heap.size + 1, 0, none⟩ = some (.string p)) := IHolds.cell (l := [.string p, .string q]) (t := 26) (b := w.heap.size + 1) (w := U12) Jr.out 0 (by simp)
  have E1 : Hid (U12.cell? ⟨w.heap.size + 1, 1, none⟩ = some (.string q)) := IHolds.cell (l := [.string p, .string q]) (t := 26) (b := w.heap.size + 1) (w := U12) Jr.out 1 (by simp)
  exact bodyPost_ret (v := .tuple #[.agg #[.string p, .string q], .int .i64 0]) (by simp [results, Try.results7, go_sem, E0.out, E1.out]) rfl ⟨rfl, B.out⟩
end Go.Proofs.Ytghkjjhnokjjiaa
