/- Trust's ground and places, with what they call. -/
import Derived.Test.YthdffjboaicopaaTa
set_option linter.unusedSimpArgs false
set_option linter.unusedVariables false
set_option maxRecDepth 100000
namespace Go.Proofs.Ythdffjboaicopaa
open Go.RowKit Go.Deep Go.PlainAid

theorem number14 {w : World} {z : Int} {n c : Int} {r : ByteArray} (h : Hid (∀ W, Calls Try.prog 23 #[.int .i64 z, .int .i64 n] W fun e w' => e = .returned (.tuple #[.string r, .int .i64 c]) ∧ Below W.heap.size W w')) :
    Calls Try.prog 14 #[.agg #[.int .i64 z], .int .i64 n] w fun e w' => e = .returned (.string r) ∧ Below w.heap.size w w' := by
  have J : Hid (Below w.heap.size w (w.alloc (.cells #[.int .i64 z] 29))) := (Below.refl _ w).alloc (Nat.le_refl _) _
  go_enter Try.func14, Try.ntmps14
  go_wp2_with (go_at_call 23; refine (h.out _).mono ?_; rintro e w1 ⟨rfl, hB1⟩)
  go_ret
  exact ⟨rfl, J.out.trans (hB1.mono J.out.size)⟩
theorem plus16 {w : World} {z : Int} {c : Int} {s t r : ByteArray} (h : Hid (∀ W, Calls Try.prog 25 #[.int .i64 z, .string s, .string t] W fun e w' => e = .returned (.tuple #[.string r, .int .i64 c]) ∧ Below W.heap.size W w')) :
    Calls Try.prog 16 #[.agg #[.int .i64 z], .string s, .string t] w fun e w' => e = .returned (.string r) ∧ Below w.heap.size w w' := by
  have J : Hid (Below w.heap.size w (w.alloc (.cells #[.int .i64 z] 29))) := (Below.refl _ w).alloc (Nat.le_refl _) _
  go_enter Try.func16, Try.ntmps16
  go_wp2_with (go_at_call 25; refine (h.out _).mono ?_; rintro e w1 ⟨rfl, hB1⟩)
  go_ret
  exact ⟨rfl, J.out.trans (hB1.mono J.out.size)⟩
theorem times17 {w : World} {z : Int} {c : Int} {s t r : ByteArray} (h : Hid (∀ W, Calls Try.prog 26 #[.int .i64 z, .string s, .string t] W fun e w' => e = .returned (.tuple #[.string r, .int .i64 c]) ∧ Below W.heap.size W w')) :
    Calls Try.prog 17 #[.agg #[.int .i64 z], .string s, .string t] w fun e w' => e = .returned (.string r) ∧ Below w.heap.size w w' := by
  have J : Hid (Below w.heap.size w (w.alloc (.cells #[.int .i64 z] 29))) := (Below.refl _ w).alloc (Nat.le_refl _) _
  go_enter Try.func17, Try.ntmps17
  go_wp2_with (go_at_call 26; refine (h.out _).mono ?_; rintro e w1 ⟨rfl, hB1⟩)
  go_ret
  exact ⟨rfl, J.out.trans (hB1.mono J.out.size)⟩
theorem noScalar13 {w : World} {z : Int} {s : ByteArray} {q : Bool} (h : Hid (∀ W, Calls Try.prog 22 #[.int .i64 z, .string s] W fun e w' => e = .returned (.bool q) ∧ Below W.heap.size W w')) :
    Calls Try.prog 13 #[.agg #[.int .i64 z], .string s] w fun e w' => e = .returned (.bool (!q)) ∧ Below w.heap.size w w' := by
  have J : Hid (Below w.heap.size w (w.alloc (.cells #[.int .i64 z] 29))) := (Below.refl _ w).alloc (Nat.le_refl _) _
  go_enter Try.func13, Try.ntmps13
  go_wp2_with (go_at_call 22; refine (h.out _).mono ?_; rintro e w1 ⟨rfl, hB1⟩)
  go_ret
  exact ⟨rfl, J.out.trans (hB1.mono J.out.size)⟩
theorem over37 {w : World} {z c : Int} {s t i r : ByteArray} (h1 : Hid (∀ W, Calls Try.prog 47 #[.int .i64 z, .string t] W fun e w' => e = .returned (.tuple #[.string i, .int .i64 c]) ∧ Below W.heap.size W w')) (h2 : Hid (∀ W, Calls Try.prog 17 #[.agg #[.int .i64 z], .string s, .string i] W fun e w' => e = .returned (.string r) ∧ Below W.heap.size W w')) :
    Calls Try.prog 37 #[.agg #[.int .i64 z], .string s, .string t] w fun e w' => e = .returned (.string r) ∧ Below w.heap.size w w' := by
  have J : Hid (Below w.heap.size w (w.alloc (.cells #[.int .i64 z] 29))) := (Below.refl _ w).alloc (Nat.le_refl _) _
  have I : Hid (IHolds (w.alloc (.cells #[.int .i64 z] 29)) w.heap.size 29 [.int .i64 z]) := IHolds.new _ _ _
  go_enter Try.func37, Try.ntmps37
  go_wp2_with (first
    | (go_at_call 47; refine (h1.out _).mono ?_; rintro e w1 ⟨rfl, hB1⟩; have B1 : Hid (Below w.heap.size w w1) := J.out.trans (hB1.mono J.out.size); have q0 := cell_keep (I.out.cell 0 (by simp)) hB1; clear hB1 J I)
    | (go_at_call 17; refine (h2.out _).mono ?_; rintro e w2 ⟨rfl, hB2⟩; have B2 : Hid (Below w.heap.size w w2) := B1.out.trans (hB2.mono B1.out.size); clear hB2 B1))
  go_ret
  exact ⟨rfl, B2.out⟩
theorem groundOf9 {w : World} {z s c : Int} (h : Hid (∀ W, Calls Try.prog 18 #[.int .i64 z] W fun e w' => e = .returned (.tuple #[.int .i64 s, .int .i64 s, .int .i64 c]) ∧ Below W.heap.size W w')) :
    Calls Try.prog 9 #[.int .i64 z] w fun e w' => e = .returned (.tuple #[.agg #[.int .i64 z], .int .i64 c]) ∧ Below w.heap.size w w' := by
  generalize hW : w.alloc (.cells #[.int .i64 0] 29) = W
  have J : Hid (Below w.heap.size w W) := by rw [← hW]; exact (Below.refl _ w).alloc (Nat.le_refl _) _
  have I0 : Hid (IHolds W w.heap.size 29 [.int .i64 0]) := by rw [← hW]; exact IHolds.new w 29 [.int .i64 0]
  go_enter Try.func9, Try.ntmps9
  go_wp2_with (go_at_call 18; refine (h.out _).mono ?_; rintro e w1 ⟨rfl, hB1⟩; have B1 : Hid (Below w.heap.size w w1) := J.out.trans (hB1.mono J.out.size); have I1 : Hid (IHolds w1 w.heap.size 29 [.int .i64 0]) := I0.out.of_below hB1; have f1 : w1.frozen? ⟨w.heap.size, 0, none⟩ = false := I1.out.frozen 0; have c1 : w1.cell? ⟨w.heap.size, 0, none⟩ = some (.int .i64 0) := I1.out.cell 0 (by simp))
  have I2 : Hid (IHolds (w1.setCell ⟨w.heap.size, 0, none⟩ (.int .i64 z)) w.heap.size 29 [.int .i64 z]) := I1.out.set 0 (.int .i64 z)
  have B2 : Hid (Below w.heap.size w (w1.setCell ⟨w.heap.size, 0, none⟩ (.int .i64 z))) := Below.setCell B1.out (Nat.le_refl _) _
  generalize w1.setCell ⟨w.heap.size, 0, none⟩ (.int .i64 z) = w2 at *
  have E0 : w2.cell? ⟨w.heap.size, 0, none⟩ = some (.int .i64 z) := I2.out.cell 0 (by simp)
  exact bodyPost_ret (v := .tuple #[.agg #[.int .i64 z], .int .i64 c]) (by simp [results, Try.results9, go_sem, E0]) rfl ⟨rfl, B2.out⟩
theorem wrong6_len {w : World} {z : Int} {a b : Option Addr} {n m c d : Nat} (h : ((m : Int) != (n : Int)) = true) :
    Calls Try.prog 6 #[.agg #[.int .i64 z, .slice a n c], .slice b m d] w fun e w' => e = .returned (.int .i64 2) ∧ Below w.heap.size w w' := by
  have J : Hid (Below w.heap.size w (w.alloc (.cells #[.int .i64 z, .slice a n c] 31))) := (Below.refl _ w).alloc (Nat.le_refl _) _
  go_enter Try.func6, Try.ntmps6
  go_wp2_with fail
  go_ret
  exact ⟨rfl, J.out⟩
theorem wrong6 {w : World} {z : Int} {a b : Option Addr} {n c d : Nat} {t : Bool} (h : ∀ W, Below w.heap.size w W → Calls Try.prog 12 #[.slice b n d, .func (.func 13) #[.agg #[.int .i64 z]] #[]] W fun e w' => e = .returned (.bool t) ∧ Below W.heap.size W w') :
    Calls Try.prog 6 #[.agg #[.int .i64 z, .slice a n c], .slice b n d] w fun e w' => e = .returned (.int .i64 (if t then 6 else 0)) ∧ Below w.heap.size w w' := by
  have J : Hid (Below w.heap.size w (w.alloc (.cells #[.int .i64 z, .slice a n c] 31))) := (Below.refl _ w).alloc (Nat.le_refl _) _
  have H : Hid _ := h
  have hmf := hmfun
  have k2 : ((n : Int) != (n : Int)) = false := by simp
  clear h
  cases t with
  | true =>
    go_enter Try.func6, Try.ntmps6
    go_wp2_with (go_at_call 12; refine (H.out _ J.out).mono ?_; rintro e w1 ⟨rfl, hB1⟩)
    go_ret
    exact ⟨rfl, J.out.trans (hB1.mono J.out.size)⟩
  | false =>
    go_enter Try.func6, Try.ntmps6
    go_wp2_with (go_at_call 12; refine (H.out _ J.out).mono ?_; rintro e w1 ⟨rfl, hB1⟩)
    go_ret
    exact ⟨rfl, J.out.trans (hB1.mono J.out.size)⟩
set_option maxRecDepth 100000 in
set_option maxHeartbeats 2000000 in
theorem places_none {w : World} {z : Int} {a : Option Addr} {n c : Nat} (CG : Hid (∀ W, Calls Try.prog 9 #[.int .i64 z] W fun e w' => e = .returned (.tuple #[.agg #[.int .i64 z], .int .i64 1]) ∧ Below W.heap.size W w')) :
    Calls Try.prog 5 #[.int .i64 z, .slice a n c] w fun e w' => e = .returned (.tuple #[.agg #[.int .i64 0, .slice none 0 0], .int .i64 1]) ∧ Below w.heap.size w w' := by
  go_enter Try.func5, Try.ntmps5
  go_wp2_with fail
  obtain ⟨U1, hU1⟩ : ∃ X, X = (w.alloc (.cells #[.int .i64 0, .slice none 0 0] 31)) := ⟨_, rfl⟩
  have Jr : Hid (IHolds U1 (w.heap.size) 31 [.int .i64 0, .slice none 0 0]) := by
    have q := IHolds.new w 31 [.int .i64 0, .slice none 0 0]
    show IHolds _ _ _ _
    rw [hU1]
    exact q
  have B : Hid (Below w.heap.size w U1) := by
    show Below _ _ _
    rw [hU1]
    exact ((Below.refl _ w).alloc (Nat.le_refl _) _)
  rw [← hU1]
  clear hU1
  refine (CG.out U1).mono ?_
  rintro e U2 ⟨rfl, hb⟩
  replace B := aB B hb
  replace Jr := aJ Jr hb
  clear hb
  have hb := nB U2 (.cells #[.int .i64 z] 29)
  replace B := aB B hb
  replace Jr := aJ Jr hb
  clear hb
  obtain ⟨zr_0, zr_1⟩ := cJ Jr
  have f0 := fJ Jr
  have I4 : Hid (IHolds _ (w.heap.size) 31 [.int .i64 0, .slice none 0 0]) := ((Jr.out.set 0 (.int .i64 0)).set 1 (.slice none 0 0))
  replace B : Hid (Below w.heap.size w (((U2.alloc (.cells #[.int .i64 z] 29)).setCell ⟨w.heap.size, 0, none⟩ (.int .i64 0)).setCell ⟨w.heap.size, 1, none⟩ (.slice none 0 0))) := ((B.out.setCell (Nat.le_refl _) _).setCell (Nat.le_refl _) _)
  replace Jr := I4
  go_wp2_with fail
  clear zr_0 zr_1
  clear f0
  generalize (((U2.alloc (.cells #[.int .i64 z] 29)).setCell ⟨w.heap.size, 0, none⟩ (.int .i64 0)).setCell ⟨w.heap.size, 1, none⟩ (.slice none 0 0)) = U3 at *
  have E0 : Hid (U3.cell? ⟨w.heap.size, 0, none⟩ = some (.int .i64 0)) := IHolds.cell (l := [.int .i64 0, .slice none 0 0]) (t := 31) (b := w.heap.size) (w := U3) Jr.out 0 (by simp)
  have E1 : Hid (U3.cell? ⟨w.heap.size, 1, none⟩ = some (.slice none 0 0)) := IHolds.cell (l := [.int .i64 0, .slice none 0 0]) (t := 31) (b := w.heap.size) (w := U3) Jr.out 1 (by simp)
  exact bodyPost_ret (v := .tuple #[.agg #[.int .i64 0, .slice none 0 0], .int .i64 1]) (by simp [results, Try.results5, go_sem, E0.out, E1.out]) rfl ⟨rfl, B.out⟩
set_option maxRecDepth 100000 in
set_option maxHeartbeats 2000000 in
theorem places_long {w : World} {z : Int} {a : Option Addr} {n c : Nat} (CG : Hid (∀ W, Calls Try.prog 9 #[.int .i64 z] W fun e w' => e = .returned (.tuple #[.agg #[.int .i64 z], .int .i64 0]) ∧ Below W.heap.size W w')) (h1 : (16 : Int) < (n : Int)) :
    Calls Try.prog 5 #[.int .i64 z, .slice a n c] w fun e w' => e = .returned (.tuple #[.agg #[.int .i64 0, .slice none 0 0], .int .i64 3]) ∧ Below w.heap.size w w' := by
  go_enter Try.func5, Try.ntmps5
  go_wp2_with fail
  obtain ⟨U1, hU1⟩ : ∃ X, X = (w.alloc (.cells #[.int .i64 0, .slice none 0 0] 31)) := ⟨_, rfl⟩
  have Jr : Hid (IHolds U1 (w.heap.size) 31 [.int .i64 0, .slice none 0 0]) := by
    have q := IHolds.new w 31 [.int .i64 0, .slice none 0 0]
    show IHolds _ _ _ _
    rw [hU1]
    exact q
  have B : Hid (Below w.heap.size w U1) := by
    show Below _ _ _
    rw [hU1]
    exact ((Below.refl _ w).alloc (Nat.le_refl _) _)
  rw [← hU1]
  clear hU1
  refine (CG.out U1).mono ?_
  rintro e U2 ⟨rfl, hb⟩
  replace B := aB B hb
  replace Jr := aJ Jr hb
  clear hb
  have hb := nB U2 (.cells #[.int .i64 z] 29)
  replace B := aB B hb
  replace Jr := aJ Jr hb
  clear hb
  obtain ⟨zr_0, zr_1⟩ := cJ Jr
  have f0 := fJ Jr
  have I4 : Hid (IHolds _ (w.heap.size) 31 [.int .i64 0, .slice none 0 0]) := ((Jr.out.set 0 (.int .i64 0)).set 1 (.slice none 0 0))
  replace B : Hid (Below w.heap.size w (((U2.alloc (.cells #[.int .i64 z] 29)).setCell ⟨w.heap.size, 0, none⟩ (.int .i64 0)).setCell ⟨w.heap.size, 1, none⟩ (.slice none 0 0))) := ((B.out.setCell (Nat.le_refl _) _).setCell (Nat.le_refl _) _)
  replace Jr := I4
  go_wp2_with fail
  clear zr_0 zr_1
  clear f0
  generalize (((U2.alloc (.cells #[.int .i64 z] 29)).setCell ⟨w.heap.size, 0, none⟩ (.int .i64 0)).setCell ⟨w.heap.size, 1, none⟩ (.slice none 0 0)) = U3 at *
  have E0 : Hid (U3.cell? ⟨w.heap.size, 0, none⟩ = some (.int .i64 0)) := IHolds.cell (l := [.int .i64 0, .slice none 0 0]) (t := 31) (b := w.heap.size) (w := U3) Jr.out 0 (by simp)
  have E1 : Hid (U3.cell? ⟨w.heap.size, 1, none⟩ = some (.slice none 0 0)) := IHolds.cell (l := [.int .i64 0, .slice none 0 0]) (t := 31) (b := w.heap.size) (w := U3) Jr.out 1 (by simp)
  exact bodyPost_ret (v := .tuple #[.agg #[.int .i64 0, .slice none 0 0], .int .i64 3]) (by simp [results, Try.results5, go_sem, E0.out, E1.out]) rfl ⟨rfl, B.out⟩
set_option maxRecDepth 100000 in
set_option maxHeartbeats 2000000 in
theorem places_nil {w : World} {z : Int} {a : Option Addr} {n c : Nat} (CG : Hid (∀ W, Calls Try.prog 9 #[.int .i64 z] W fun e w' => e = .returned (.tuple #[.agg #[.int .i64 z], .int .i64 0]) ∧ Below W.heap.size W w')) (h1 : ¬ (16 : Int) < (n : Int)) (h2 : ((n : Int) == 0) = true) :
    Calls Try.prog 5 #[.int .i64 z, .slice a n c] w fun e w' => e = .returned (.tuple #[.agg #[.int .i64 0, .slice none 0 0], .int .i64 2]) ∧ Below w.heap.size w w' := by
  go_enter Try.func5, Try.ntmps5
  go_wp2_with fail
  obtain ⟨U1, hU1⟩ : ∃ X, X = (w.alloc (.cells #[.int .i64 0, .slice none 0 0] 31)) := ⟨_, rfl⟩
  have Jr : Hid (IHolds U1 (w.heap.size) 31 [.int .i64 0, .slice none 0 0]) := by
    have q := IHolds.new w 31 [.int .i64 0, .slice none 0 0]
    show IHolds _ _ _ _
    rw [hU1]
    exact q
  have B : Hid (Below w.heap.size w U1) := by
    show Below _ _ _
    rw [hU1]
    exact ((Below.refl _ w).alloc (Nat.le_refl _) _)
  rw [← hU1]
  clear hU1
  refine (CG.out U1).mono ?_
  rintro e U2 ⟨rfl, hb⟩
  replace B := aB B hb
  replace Jr := aJ Jr hb
  clear hb
  have hb := nB U2 (.cells #[.int .i64 z] 29)
  replace B := aB B hb
  replace Jr := aJ Jr hb
  clear hb
  obtain ⟨zr_0, zr_1⟩ := cJ Jr
  have f0 := fJ Jr
  have I4 : Hid (IHolds _ (w.heap.size) 31 [.int .i64 0, .slice none 0 0]) := ((Jr.out.set 0 (.int .i64 0)).set 1 (.slice none 0 0))
  replace B : Hid (Below w.heap.size w (((U2.alloc (.cells #[.int .i64 z] 29)).setCell ⟨w.heap.size, 0, none⟩ (.int .i64 0)).setCell ⟨w.heap.size, 1, none⟩ (.slice none 0 0))) := ((B.out.setCell (Nat.le_refl _) _).setCell (Nat.le_refl _) _)
  replace Jr := I4
  go_wp2_with fail
  clear zr_0 zr_1
  clear f0
  generalize (((U2.alloc (.cells #[.int .i64 z] 29)).setCell ⟨w.heap.size, 0, none⟩ (.int .i64 0)).setCell ⟨w.heap.size, 1, none⟩ (.slice none 0 0)) = U3 at *
  have E0 : Hid (U3.cell? ⟨w.heap.size, 0, none⟩ = some (.int .i64 0)) := IHolds.cell (l := [.int .i64 0, .slice none 0 0]) (t := 31) (b := w.heap.size) (w := U3) Jr.out 0 (by simp)
  have E1 : Hid (U3.cell? ⟨w.heap.size, 1, none⟩ = some (.slice none 0 0)) := IHolds.cell (l := [.int .i64 0, .slice none 0 0]) (t := 31) (b := w.heap.size) (w := U3) Jr.out 1 (by simp)
  exact bodyPost_ret (v := .tuple #[.agg #[.int .i64 0, .slice none 0 0], .int .i64 2]) (by simp [results, Try.results5, go_sem, E0.out, E1.out]) rfl ⟨rfl, B.out⟩
set_option maxRecDepth 100000 in
set_option maxHeartbeats 2000000 in
theorem places_range {w : World} {z : Int} {a : Option Addr} {n c : Nat} (CG : Hid (∀ W, Calls Try.prog 9 #[.int .i64 z] W fun e w' => e = .returned (.tuple #[.agg #[.int .i64 z], .int .i64 0]) ∧ Below W.heap.size W w')) (h1 : ¬ (16 : Int) < (n : Int)) (h2 : ((n : Int) == 0) = false) (C10 : Hid (∀ W, Below w.heap.size w W → Calls Try.prog 10 #[.slice a n c, .func (.func 7) #[] #[]] W fun e w' => e = .returned (.bool true) ∧ Below W.heap.size W w')) :
    Calls Try.prog 5 #[.int .i64 z, .slice a n c] w fun e w' => e = .returned (.tuple #[.agg #[.int .i64 0, .slice none 0 0], .int .i64 4]) ∧ Below w.heap.size w w' := by
  go_enter Try.func5, Try.ntmps5
  go_wp2_with fail
  obtain ⟨U1, hU1⟩ : ∃ X, X = (w.alloc (.cells #[.int .i64 0, .slice none 0 0] 31)) := ⟨_, rfl⟩
  have Jr : Hid (IHolds U1 (w.heap.size) 31 [.int .i64 0, .slice none 0 0]) := by
    have q := IHolds.new w 31 [.int .i64 0, .slice none 0 0]
    show IHolds _ _ _ _
    rw [hU1]
    exact q
  have B : Hid (Below w.heap.size w U1) := by
    show Below _ _ _
    rw [hU1]
    exact ((Below.refl _ w).alloc (Nat.le_refl _) _)
  rw [← hU1]
  clear hU1
  refine (CG.out U1).mono ?_
  rintro e U2 ⟨rfl, hb⟩
  replace B := aB B hb
  replace Jr := aJ Jr hb
  clear hb
  have hb := nB U2 (.cells #[.int .i64 z] 29)
  have Jg : Hid (IHolds (U2.alloc (.cells #[.int .i64 z] 29)) U2.heap.size 29 [.int .i64 z]) := IHolds.new _ _ _
  have ne_r_g := nJ Jr
  have ge_g : Hid (w.heap.size ≤ U2.heap.size) := B.out.size
  replace B := aB B hb
  replace Jr := aJ Jr hb
  clear hb
  go_wp2_with fail
  generalize (U2.alloc (.cells #[.int .i64 z] 29)) = U3 at *
  generalize U2.heap.size = b4 at *
  refine (C10.out U3 B.out).mono ?_
  rintro e U5 ⟨rfl, hb⟩
  replace B := aB B hb
  replace Jr := aJ Jr hb
  replace Jg := aJ Jg hb
  clear hb
  obtain ⟨zr_0, zr_1⟩ := cJ Jr
  have f0 := fJ Jr
  have hBut : But (w.heap.size) U5 ((U5.setCell ⟨w.heap.size, 0, none⟩ (.int .i64 0)).setCell ⟨w.heap.size, 1, none⟩ (.slice none 0 0)) := (((But.refl _ U5).setCell 0 (.int .i64 0)).setCell 1 (.slice none 0 0))
  have I4 : Hid (IHolds _ (w.heap.size) 31 [.int .i64 0, .slice none 0 0]) := ((Jr.out.set 0 (.int .i64 0)).set 1 (.slice none 0 0))
  replace B : Hid (Below w.heap.size w ((U5.setCell ⟨w.heap.size, 0, none⟩ (.int .i64 0)).setCell ⟨w.heap.size, 1, none⟩ (.slice none 0 0))) := ((B.out.setCell (by first | exact Nat.le_refl _ | exact ge_r.out | (show w.heap.size ≤ w.heap.size; omega)) _).setCell (by first | exact Nat.le_refl _ | exact ge_r.out | (show w.heap.size ≤ w.heap.size; omega)) _)
  replace Jg := tJ Jg hBut (fun h => ne_r_g.out h.symm)
  replace Jr := I4
  clear I4 hBut
  go_wp2_with fail
  clear zr_0 zr_1
  clear f0
  generalize ((U5.setCell ⟨w.heap.size, 0, none⟩ (.int .i64 0)).setCell ⟨w.heap.size, 1, none⟩ (.slice none 0 0)) = U6 at *
  have E0 : Hid (U6.cell? ⟨w.heap.size, 0, none⟩ = some (.int .i64 0)) := IHolds.cell (l := [.int .i64 0, .slice none 0 0]) (t := 31) (b := w.heap.size) (w := U6) Jr.out 0 (by simp)
  have E1 : Hid (U6.cell? ⟨w.heap.size, 1, none⟩ = some (.slice none 0 0)) := IHolds.cell (l := [.int .i64 0, .slice none 0 0]) (t := 31) (b := w.heap.size) (w := U6) Jr.out 1 (by simp)
  exact bodyPost_ret (v := .tuple #[.agg #[.int .i64 0, .slice none 0 0], .int .i64 4]) (by simp [results, Try.results5, go_sem, E0.out, E1.out]) rfl ⟨rfl, B.out⟩
set_option maxRecDepth 100000 in
set_option maxHeartbeats 2000000 in
theorem places_twice {w : World} {z : Int} {a : Option Addr} {n c : Nat} (CG : Hid (∀ W, Calls Try.prog 9 #[.int .i64 z] W fun e w' => e = .returned (.tuple #[.agg #[.int .i64 z], .int .i64 0]) ∧ Below W.heap.size W w')) (h1 : ¬ (16 : Int) < (n : Int)) (h2 : ((n : Int) == 0) = false) (C10 : Hid (∀ W, Below w.heap.size w W → Calls Try.prog 10 #[.slice a n c, .func (.func 7) #[] #[]] W fun e w' => e = .returned (.bool false) ∧ Below W.heap.size W w')) (C11 : Hid (∀ W, Below w.heap.size w W → Calls Try.prog 11 #[.slice a n c] W fun e w' => e = .returned (.bool true) ∧ Below W.heap.size W w')) :
    Calls Try.prog 5 #[.int .i64 z, .slice a n c] w fun e w' => e = .returned (.tuple #[.agg #[.int .i64 0, .slice none 0 0], .int .i64 10]) ∧ Below w.heap.size w w' := by
  go_enter Try.func5, Try.ntmps5
  go_wp2_with fail
  obtain ⟨U1, hU1⟩ : ∃ X, X = (w.alloc (.cells #[.int .i64 0, .slice none 0 0] 31)) := ⟨_, rfl⟩
  have Jr : Hid (IHolds U1 (w.heap.size) 31 [.int .i64 0, .slice none 0 0]) := by
    have q := IHolds.new w 31 [.int .i64 0, .slice none 0 0]
    show IHolds _ _ _ _
    rw [hU1]
    exact q
  have B : Hid (Below w.heap.size w U1) := by
    show Below _ _ _
    rw [hU1]
    exact ((Below.refl _ w).alloc (Nat.le_refl _) _)
  rw [← hU1]
  clear hU1
  refine (CG.out U1).mono ?_
  rintro e U2 ⟨rfl, hb⟩
  replace B := aB B hb
  replace Jr := aJ Jr hb
  clear hb
  have hb := nB U2 (.cells #[.int .i64 z] 29)
  have Jg : Hid (IHolds (U2.alloc (.cells #[.int .i64 z] 29)) U2.heap.size 29 [.int .i64 z]) := IHolds.new _ _ _
  have ne_r_g := nJ Jr
  have ge_g : Hid (w.heap.size ≤ U2.heap.size) := B.out.size
  replace B := aB B hb
  replace Jr := aJ Jr hb
  clear hb
  go_wp2_with fail
  generalize (U2.alloc (.cells #[.int .i64 z] 29)) = U3 at *
  generalize U2.heap.size = b4 at *
  refine (C10.out U3 B.out).mono ?_
  rintro e U5 ⟨rfl, hb⟩
  replace B := aB B hb
  replace Jr := aJ Jr hb
  replace Jg := aJ Jg hb
  clear hb
  go_wp2_with fail
  refine (C11.out U5 B.out).mono ?_
  rintro e U6 ⟨rfl, hb⟩
  replace B := aB B hb
  replace Jr := aJ Jr hb
  replace Jg := aJ Jg hb
  clear hb
  obtain ⟨zr_0, zr_1⟩ := cJ Jr
  have f0 := fJ Jr
  have hBut : But (w.heap.size) U6 ((U6.setCell ⟨w.heap.size, 0, none⟩ (.int .i64 0)).setCell ⟨w.heap.size, 1, none⟩ (.slice none 0 0)) := (((But.refl _ U6).setCell 0 (.int .i64 0)).setCell 1 (.slice none 0 0))
  have I4 : Hid (IHolds _ (w.heap.size) 31 [.int .i64 0, .slice none 0 0]) := ((Jr.out.set 0 (.int .i64 0)).set 1 (.slice none 0 0))
  replace B : Hid (Below w.heap.size w ((U6.setCell ⟨w.heap.size, 0, none⟩ (.int .i64 0)).setCell ⟨w.heap.size, 1, none⟩ (.slice none 0 0))) := ((B.out.setCell (by first | exact Nat.le_refl _ | exact ge_r.out | (show w.heap.size ≤ w.heap.size; omega)) _).setCell (by first | exact Nat.le_refl _ | exact ge_r.out | (show w.heap.size ≤ w.heap.size; omega)) _)
  replace Jg := tJ Jg hBut (fun h => ne_r_g.out h.symm)
  replace Jr := I4
  clear I4 hBut
  go_wp2_with fail
  clear zr_0 zr_1
  clear f0
  generalize ((U6.setCell ⟨w.heap.size, 0, none⟩ (.int .i64 0)).setCell ⟨w.heap.size, 1, none⟩ (.slice none 0 0)) = U7 at *
  have E0 : Hid (U7.cell? ⟨w.heap.size, 0, none⟩ = some (.int .i64 0)) := IHolds.cell (l := [.int .i64 0, .slice none 0 0]) (t := 31) (b := w.heap.size) (w := U7) Jr.out 0 (by simp)
  have E1 : Hid (U7.cell? ⟨w.heap.size, 1, none⟩ = some (.slice none 0 0)) := IHolds.cell (l := [.int .i64 0, .slice none 0 0]) (t := 31) (b := w.heap.size) (w := U7) Jr.out 1 (by simp)
  exact bodyPost_ret (v := .tuple #[.agg #[.int .i64 0, .slice none 0 0], .int .i64 10]) (by simp [results, Try.results5, go_sem, E0.out, E1.out]) rfl ⟨rfl, B.out⟩
set_option maxRecDepth 100000 in
set_option maxHeartbeats 2000000 in
theorem places_ok {w : World} {z : Int} {a : Option Addr} {n c : Nat} (CG : Hid (∀ W, Calls Try.prog 9 #[.int .i64 z] W fun e w' => e = .returned (.tuple #[.agg #[.int .i64 z], .int .i64 0]) ∧ Below W.heap.size W w')) (h1 : ¬ (16 : Int) < (n : Int)) (h2 : ((n : Int) == 0) = false) (C10 : Hid (∀ W, Below w.heap.size w W → Calls Try.prog 10 #[.slice a n c, .func (.func 7) #[] #[]] W fun e w' => e = .returned (.bool false) ∧ Below W.heap.size W w')) (C11 : Hid (∀ W, Below w.heap.size w W → Calls Try.prog 11 #[.slice a n c] W fun e w' => e = .returned (.bool false) ∧ Below W.heap.size W w')) :
    Calls Try.prog 5 #[.int .i64 z, .slice a n c] w fun e w' => e = .returned (.tuple #[.agg #[.int .i64 z, .slice a n c], .int .i64 0]) ∧ Below w.heap.size w w' := by
  go_enter Try.func5, Try.ntmps5
  go_wp2_with fail
  obtain ⟨U1, hU1⟩ : ∃ X, X = (w.alloc (.cells #[.int .i64 0, .slice none 0 0] 31)) := ⟨_, rfl⟩
  have Jr : Hid (IHolds U1 (w.heap.size) 31 [.int .i64 0, .slice none 0 0]) := by
    have q := IHolds.new w 31 [.int .i64 0, .slice none 0 0]
    show IHolds _ _ _ _
    rw [hU1]
    exact q
  have B : Hid (Below w.heap.size w U1) := by
    show Below _ _ _
    rw [hU1]
    exact ((Below.refl _ w).alloc (Nat.le_refl _) _)
  rw [← hU1]
  clear hU1
  refine (CG.out U1).mono ?_
  rintro e U2 ⟨rfl, hb⟩
  replace B := aB B hb
  replace Jr := aJ Jr hb
  clear hb
  have hb := nB U2 (.cells #[.int .i64 z] 29)
  have Jg : Hid (IHolds (U2.alloc (.cells #[.int .i64 z] 29)) U2.heap.size 29 [.int .i64 z]) := IHolds.new _ _ _
  have ne_r_g := nJ Jr
  have ge_g : Hid (w.heap.size ≤ U2.heap.size) := B.out.size
  replace B := aB B hb
  replace Jr := aJ Jr hb
  clear hb
  go_wp2_with fail
  generalize (U2.alloc (.cells #[.int .i64 z] 29)) = U3 at *
  generalize U2.heap.size = b4 at *
  refine (C10.out U3 B.out).mono ?_
  rintro e U5 ⟨rfl, hb⟩
  replace B := aB B hb
  replace Jr := aJ Jr hb
  replace Jg := aJ Jg hb
  clear hb
  go_wp2_with fail
  refine (C11.out U5 B.out).mono ?_
  rintro e U6 ⟨rfl, hb⟩
  replace B := aB B hb
  replace Jr := aJ Jr hb
  replace Jg := aJ Jg hb
  clear hb
  have Kg : Hid (IHolds U6 (b4) 29 [.int .i64 z]) := Jg.out
  obtain ⟨zr_0, zr_1⟩ := cJ Jr
  have f0 := fJ Jr
  have hBut : But (w.heap.size) U6 ((U6.setCell ⟨w.heap.size, 0, none⟩ (.int .i64 z)).setCell ⟨w.heap.size, 1, none⟩ (.slice a n c)) := (((But.refl _ U6).setCell 0 (.int .i64 z)).setCell 1 (.slice a n c))
  have I4 : Hid (IHolds _ (w.heap.size) 31 [.int .i64 z, .slice a n c]) := ((Jr.out.set 0 (.int .i64 z)).set 1 (.slice a n c))
  replace B : Hid (Below w.heap.size w ((U6.setCell ⟨w.heap.size, 0, none⟩ (.int .i64 z)).setCell ⟨w.heap.size, 1, none⟩ (.slice a n c))) := ((B.out.setCell (by first | exact Nat.le_refl _ | exact ge_r.out | (show w.heap.size ≤ w.heap.size; omega)) _).setCell (by first | exact Nat.le_refl _ | exact ge_r.out | (show w.heap.size ≤ w.heap.size; omega)) _)
  replace Jg := tJ Jg hBut (fun h => ne_r_g.out h.symm)
  replace Jr := I4
  clear I4 hBut
  have zg_0 : U6.cell? ⟨b4, 0, none⟩ = some (.int .i64 z) := IHolds.cell (l := [.int .i64 z]) (t := 29) (b := b4) (w := U6) (Kg.out) 0 (by simp)
  go_wp2_with fail
  clear zg_0
  clear Kg
  clear zr_0 zr_1
  clear f0
  generalize ((U6.setCell ⟨w.heap.size, 0, none⟩ (.int .i64 z)).setCell ⟨w.heap.size, 1, none⟩ (.slice a n c)) = U7 at *
  have E0 : Hid (U7.cell? ⟨w.heap.size, 0, none⟩ = some (.int .i64 z)) := IHolds.cell (l := [.int .i64 z, .slice a n c]) (t := 31) (b := w.heap.size) (w := U7) Jr.out 0 (by simp)
  have E1 : Hid (U7.cell? ⟨w.heap.size, 1, none⟩ = some (.slice a n c)) := IHolds.cell (l := [.int .i64 z, .slice a n c]) (t := 31) (b := w.heap.size) (w := U7) Jr.out 1 (by simp)
  exact bodyPost_ret (v := .tuple #[.agg #[.int .i64 z, .slice a n c], .int .i64 0]) (by simp [results, Try.results5, go_sem, E0.out, E1.out]) rfl ⟨rfl, B.out⟩
end Go.Proofs.Ythdffjboaicopaa
