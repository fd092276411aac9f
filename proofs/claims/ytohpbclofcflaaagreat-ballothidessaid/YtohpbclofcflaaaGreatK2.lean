/- The program's noCipher, Renew and Decrypt: the ways that answer a code. Lists of ciphertexts: the program's look at all of them. Sums of ciphertexts: the program's. Sums of ciphertexts: Sum, the program's and the document's. The two sides answer alike; the law. -/
import Derived.Test.YtohpbclofcflaaaGreatK1
import Derived.Deep.RegionHeld3
set_option linter.unusedSimpArgs false
set_option linter.unusedVariables false
set_option maxRecDepth 100000
namespace Go.Proofs.YtohpbclofcflaaaGreat
open Go.RowKit Go.Deep Go.PlainAid

section
variable {z : Int} {G : Array Value} {S Wd M low one sq Ri Wd2 M2 low2 one2 sq2 Ri2 : Nat}
theorem gro_no {z : Int} (z1 : ¬ z = 1) (z2 : ¬ z = 2) (z3 : ¬ z = 3) (W : World) : Calls Tryz.prog 12 #[.int .i64 z] W fun e w' => e = .returned (.tuple #[.agg #[.int .i64 z], .int .i64 1]) ∧ Below W.heap.size W w' := by
  have G := fun W => ground0 W z (beq_eq_false_iff_ne.2 z1) (beq_eq_false_iff_ne.2 z2) (beq_eq_false_iff_ne.2 z3)
  exact groundOf18 (fun V => sizes_call (on46_no 52 rfl size70 (by kernel_rfl) G))
set_option maxHeartbeats 4000000 in
theorem noC27 (k : KD z G S Wd M low one sq Ri Wd2 M2 low2 one2 sq2 Ri2) {w : World} {a b : ByteArray} :
    Calls Tryz.prog 27 #[.agg #[.int .i64 z], .agg #[.string a, .string b]] w fun e w' => e = .returned (.bool (!(isEl S M a && isEl S M b))) ∧ Below w.heap.size w w' := by
  have CA : Hid (∀ V, Calls Tryz.prog 13 #[.agg #[.int .i64 z], .string a] V fun e w' => e = .returned (.bool (!isEl S M a)) ∧ Below V.heap.size V w') := fun V => nEl k (by rw [Bool.not_not]) V
  have CB : Hid (∀ V, Calls Tryz.prog 13 #[.agg #[.int .i64 z], .string b] V fun e w' => e = .returned (.bool (!isEl S M b)) ∧ Below V.heap.size V w') := fun V => nEl k (by rw [Bool.not_not]) V
  generalize isEl S M a = ta at *
  generalize isEl S M b = tb at *
  cases ta with
  | false =>
    go_enter Tryz.func27, Tryz.ntmps27
    go_wp2_with fail
    obtain ⟨W1, hW1⟩ : ∃ X, X = ((w.alloc (.cells #[.int .i64 z] 34)).alloc (.cells #[.string a, .string b] 24)) := ⟨_, rfl⟩
    have Jg : Hid (IHolds W1 (w.heap.size) 34 [.int .i64 z]) := by
      have q := IHolds.new w 34 [.int .i64 z]
      show IHolds _ _ _ _
      rw [hW1]
      exact (q.alloc _)
    have Jc : Hid (IHolds W1 (w.heap.size + 1) 24 [.string a, .string b]) := by
      have q := IHolds.new (w.alloc (.cells #[.int .i64 z] 34)) 24 [.string a, .string b]
      simp only [World.size_alloc, Nat.add_assoc, Nat.reduceAdd] at q
      show IHolds _ _ _ _
      rw [hW1]
      exact q
    have B : Hid (Below w.heap.size w W1) := by
      show Below _ _ _
      rw [hW1]
      exact (((Below.refl _ w).alloc (Nat.le_refl _) _).alloc (by simp only [World.size_alloc]; omega) _)
    rw [← hW1]
    clear hW1
    refine (CA.out _).mono ?_
    rintro e W2 ⟨rfl, hb⟩
    replace B := aB B hb
    replace Jg := aJ Jg hb
    replace Jc := aJ Jc hb
    clear hb
    go_wp2_with fail
    go_ret
    exact ⟨rfl, B.out⟩
  | true =>
    go_enter Tryz.func27, Tryz.ntmps27
    go_wp2_with fail
    obtain ⟨W1, hW1⟩ : ∃ X, X = ((w.alloc (.cells #[.int .i64 z] 34)).alloc (.cells #[.string a, .string b] 24)) := ⟨_, rfl⟩
    have Jg : Hid (IHolds W1 (w.heap.size) 34 [.int .i64 z]) := by
      have q := IHolds.new w 34 [.int .i64 z]
      show IHolds _ _ _ _
      rw [hW1]
      exact (q.alloc _)
    have Jc : Hid (IHolds W1 (w.heap.size + 1) 24 [.string a, .string b]) := by
      have q := IHolds.new (w.alloc (.cells #[.int .i64 z] 34)) 24 [.string a, .string b]
      simp only [World.size_alloc, Nat.add_assoc, Nat.reduceAdd] at q
      show IHolds _ _ _ _
      rw [hW1]
      exact q
    have B : Hid (Below w.heap.size w W1) := by
      show Below _ _ _
      rw [hW1]
      exact (((Below.refl _ w).alloc (Nat.le_refl _) _).alloc (by simp only [World.size_alloc]; omega) _)
    rw [← hW1]
    clear hW1
    refine (CA.out _).mono ?_
    rintro e W2 ⟨rfl, hb⟩
    replace B := aB B hb
    replace Jg := aJ Jg hb
    replace Jc := aJ Jc hb
    clear hb
    have zg_0 : W2.cell? ⟨w.heap.size, 0, none⟩ = some (.int .i64 z) := Jg.out.cell 0 (by simp)
    have zc_0 : W2.cell? ⟨w.heap.size + 1, 0, none⟩ = some (.string a) := Jc.out.cell 0 (by simp)
    have zc_1 : W2.cell? ⟨w.heap.size + 1, 1, none⟩ = some (.string b) := Jc.out.cell 1 (by simp)
    go_wp2_with fail
    clear zg_0 zc_0 zc_1
    refine (CB.out _).mono ?_
    rintro e W3 ⟨rfl, hb⟩
    replace B := aB B hb
    replace Jg := aJ Jg hb
    replace Jc := aJ Jc hb
    clear hb
    go_wp2_with fail
    go_ret
    exact ⟨by cases tb <;> rfl, B.out⟩
set_option maxHeartbeats 4000000 in
theorem prog8_none {w : World} {z : Int} (z1 : z ≠ 1) (z2 : z ≠ 2) (z3 : z ≠ 3) {key a b n : ByteArray} :
    Calls Tryz.prog 8 #[.int .i64 z, .string key, .agg #[.string a, .string b], .string n] w fun e w' => e = .returned (.tuple #[.agg #[.string ⟨#[]⟩, .string ⟨#[]⟩], .int .i64 1]) ∧ Below w.heap.size w w' := by
  have C0 : Hid (∀ W, Calls Tryz.prog 12 #[.int .i64 z] W fun e w' => e = .returned (.tuple #[.agg #[.int .i64 z], .int .i64 1]) ∧ Below W.heap.size W w') := fun W => gro_no z1 z2 z3 W
  clear z1 z2 z3
  go_enter Tryz.func8, Tryz.ntmps8
  go_wp2_with fail
  obtain ⟨W1, hW1⟩ : ∃ X, X = ((w.alloc (.cells #[.string a, .string b] 24)).alloc (.cells #[.string ⟨#[]⟩, .string ⟨#[]⟩] 24)) := ⟨_, rfl⟩
  have Jc : Hid (IHolds W1 (w.heap.size) 24 [.string a, .string b]) := by
    have q := IHolds.new w 24 [.string a, .string b]
    show IHolds _ _ _ _
    rw [hW1]
    exact (q.alloc _)
  have Jr : Hid (IHolds W1 (w.heap.size + 1) 24 [.string ⟨#[]⟩, .string ⟨#[]⟩]) := by
    have q := IHolds.new (w.alloc (.cells #[.string a, .string b] 24)) 24 [.string ⟨#[]⟩, .string ⟨#[]⟩]
    simp only [World.size_alloc, Nat.add_assoc, Nat.reduceAdd] at q
    show IHolds _ _ _ _
    rw [hW1]
    exact q
  have B : Hid (Below w.heap.size w W1) := by
    show Below _ _ _
    rw [hW1]
    exact (((Below.refl _ w).alloc (Nat.le_refl _) _).alloc (by simp only [World.size_alloc]; omega) _)
  rw [← hW1]
  clear hW1
  have q := C0.out W1
  refine q.mono ?_
  clear q
  rintro e W2 ⟨rfl, hb⟩
  replace B := aB B hb
  replace Jc := aJ Jc hb
  replace Jr := aJ Jr hb
  clear hb
  have hb := nB W2 (.cells #[.int .i64 z] 34)
  have Jg : Hid (IHolds (W2.alloc (.cells #[.int .i64 z] 34)) W2.heap.size 34 [.int .i64 z]) := IHolds.new _ _ _
  have ne_c_g := nJ Jc
  have ne_r_g := nJ Jr
  have ge_g : Hid (w.heap.size ≤ W2.heap.size) := B.out.size
  replace B := aB B hb
  replace Jc := aJ Jc hb
  replace Jr := aJ Jr hb
  clear hb
  obtain ⟨zr_0, zr_1⟩ := cJ Jr
  have f0 := fJ Jr
  have I4 : Hid (IHolds (((W2.alloc (.cells #[.int .i64 z] 34)).setCell ⟨w.heap.size + 1, 0, none⟩ (.string ⟨#[]⟩)).setCell ⟨w.heap.size + 1, 1, none⟩ (.string ⟨#[]⟩)) (w.heap.size + 1) 24 [.string ⟨#[]⟩, .string ⟨#[]⟩]) := ((Jr.out.set 0 _).set 1 _)
  have B4 : Hid (Below w.heap.size w (((W2.alloc (.cells #[.int .i64 z] 34)).setCell ⟨w.heap.size + 1, 0, none⟩ (.string ⟨#[]⟩)).setCell ⟨w.heap.size + 1, 1, none⟩ (.string ⟨#[]⟩))) := ((B.out.setCell (by show w.heap.size ≤ w.heap.size + 1; omega) _).setCell (by show w.heap.size ≤ w.heap.size + 1; omega) _)
  go_wp2_with fail
  clear zr_0 zr_1 f0
  generalize (((W2.alloc (.cells #[.int .i64 z] 34)).setCell ⟨w.heap.size + 1, 0, none⟩ (.string ⟨#[]⟩)).setCell ⟨w.heap.size + 1, 1, none⟩ (.string ⟨#[]⟩)) = W3 at *
  have E0 : Hid (W3.cell? ⟨w.heap.size + 1, 0, none⟩ = some (.string ⟨#[]⟩)) := I4.out.cell 0 (by simp)
  have E1 : Hid (W3.cell? ⟨w.heap.size + 1, 1, none⟩ = some (.string ⟨#[]⟩)) := I4.out.cell 1 (by simp)
  exact bodyPost_ret (v := .tuple #[.agg #[.string ⟨#[]⟩, .string ⟨#[]⟩], .int .i64 1]) (by simp [results, Tryz.results8, go_sem, E0.out, E1.out]) rfl ⟨rfl, B4.out⟩
set_option maxHeartbeats 4000000 in
theorem prog10_none {w : World} {z : Int} (z1 : z ≠ 1) (z2 : z ≠ 2) (z3 : z ≠ 3) {s a b : ByteArray} :
    Calls Tryz.prog 10 #[.int .i64 z, .string s, .agg #[.string a, .string b]] w fun e w' => e = .returned (.tuple #[.string ⟨#[]⟩, .int .i64 1]) ∧ Below w.heap.size w w' := by
  have C0 : Hid (∀ W, Calls Tryz.prog 12 #[.int .i64 z] W fun e w' => e = .returned (.tuple #[.agg #[.int .i64 z], .int .i64 1]) ∧ Below W.heap.size W w') := fun W => gro_no z1 z2 z3 W
  clear z1 z2 z3
  go_enter Tryz.func10, Tryz.ntmps10
  go_wp2_with fail
  obtain ⟨W1, hW1⟩ : ∃ X, X = (w.alloc (.cells #[.string a, .string b] 24)) := ⟨_, rfl⟩
  have Jc : Hid (IHolds W1 (w.heap.size) 24 [.string a, .string b]) := by
    have q := IHolds.new w 24 [.string a, .string b]
    show IHolds _ _ _ _
    rw [hW1]
    exact q
  have B : Hid (Below w.heap.size w W1) := by
    show Below _ _ _
    rw [hW1]
    exact ((Below.refl _ w).alloc (Nat.le_refl _) _)
  rw [← hW1]
  clear hW1
  have q := C0.out W1
  refine q.mono ?_
  clear q
  rintro e W2 ⟨rfl, hb⟩
  replace B := aB B hb
  replace Jc := aJ Jc hb
  clear hb
  have hb := nB W2 (.cells #[.int .i64 z] 34)
  have Jg : Hid (IHolds (W2.alloc (.cells #[.int .i64 z] 34)) W2.heap.size 34 [.int .i64 z]) := IHolds.new _ _ _
  have ne_c_g := nJ Jc
  have ge_g : Hid (w.heap.size ≤ W2.heap.size) := B.out.size
  replace B := aB B hb
  replace Jc := aJ Jc hb
  clear hb
  go_wp2_with fail
  exact bodyPost_ret (v := .tuple #[.string ⟨#[]⟩, .int .i64 1]) (by simp [results, Tryz.results10, go_sem]) rfl ⟨rfl, B.out⟩
set_option maxHeartbeats 4000000 in
theorem prog6_none {w : World} {z : Int} (z1 : z ≠ 1) (z2 : z ≠ 2) (z3 : z ≠ 3) {ca : Option Addr} {cn cc : Nat} :
    Calls Tryz.prog 6 #[.int .i64 z, .slice ca cn cc] w fun e w' => e = .returned (.tuple #[.agg #[.string ⟨#[]⟩, .string ⟨#[]⟩], .int .i64 1]) ∧ Below w.heap.size w w' := by
  have C0 : Hid (∀ W, Calls Tryz.prog 12 #[.int .i64 z] W fun e w' => e = .returned (.tuple #[.agg #[.int .i64 z], .int .i64 1]) ∧ Below W.heap.size W w') := fun W => gro_no z1 z2 z3 W
  clear z1 z2 z3
  go_enter Tryz.func6, Tryz.ntmps6
  go_wp2_with fail
  obtain ⟨W1, hW1⟩ : ∃ X, X = (w.alloc (.cells #[.string ⟨#[]⟩, .string ⟨#[]⟩] 24)) := ⟨_, rfl⟩
  have Jr : Hid (IHolds W1 (w.heap.size) 24 [.string ⟨#[]⟩, .string ⟨#[]⟩]) := by
    have q := IHolds.new w 24 [.string ⟨#[]⟩, .string ⟨#[]⟩]
    show IHolds _ _ _ _
    rw [hW1]
    exact q
  have B : Hid (Below w.heap.size w W1) := by
    show Below _ _ _
    rw [hW1]
    exact ((Below.refl _ w).alloc (Nat.le_refl _) _)
  rw [← hW1]
  clear hW1
  have q := C0.out W1
  refine q.mono ?_
  clear q
  rintro e W2 ⟨rfl, hb⟩
  replace B := aB B hb
  replace Jr := aJ Jr hb
  clear hb
  have hb := nB W2 (.cells #[.int .i64 z] 34)
  have Jg : Hid (IHolds (W2.alloc (.cells #[.int .i64 z] 34)) W2.heap.size 34 [.int .i64 z]) := IHolds.new _ _ _
  have ne_r_g := nJ Jr
  have ge_g : Hid (w.heap.size ≤ W2.heap.size) := B.out.size
  replace B := aB B hb
  replace Jr := aJ Jr hb
  clear hb
  obtain ⟨zr_0, zr_1⟩ := cJ Jr
  have f0 := fJ Jr
  have I4 : Hid (IHolds (((W2.alloc (.cells #[.int .i64 z] 34)).setCell ⟨w.heap.size, 0, none⟩ (.string ⟨#[]⟩)).setCell ⟨w.heap.size, 1, none⟩ (.string ⟨#[]⟩)) (w.heap.size) 24 [.string ⟨#[]⟩, .string ⟨#[]⟩]) := ((Jr.out.set 0 _).set 1 _)
  have B4 : Hid (Below w.heap.size w (((W2.alloc (.cells #[.int .i64 z] 34)).setCell ⟨w.heap.size, 0, none⟩ (.string ⟨#[]⟩)).setCell ⟨w.heap.size, 1, none⟩ (.string ⟨#[]⟩))) := ((B.out.setCell (by show w.heap.size ≤ w.heap.size; omega) _).setCell (by show w.heap.size ≤ w.heap.size; omega) _)
  go_wp2_with fail
  clear zr_0 zr_1 f0
  generalize (((W2.alloc (.cells #[.int .i64 z] 34)).setCell ⟨w.heap.size, 0, none⟩ (.string ⟨#[]⟩)).setCell ⟨w.heap.size, 1, none⟩ (.string ⟨#[]⟩)) = W3 at *
  have E0 : Hid (W3.cell? ⟨w.heap.size, 0, none⟩ = some (.string ⟨#[]⟩)) := I4.out.cell 0 (by simp)
  have E1 : Hid (W3.cell? ⟨w.heap.size, 1, none⟩ = some (.string ⟨#[]⟩)) := I4.out.cell 1 (by simp)
  exact bodyPost_ret (v := .tuple #[.agg #[.string ⟨#[]⟩, .string ⟨#[]⟩], .int .i64 1]) (by simp [results, Tryz.results6, go_sem, E0.out, E1.out]) rfl ⟨rfl, B4.out⟩
set_option maxHeartbeats 4000000 in
theorem prog8_A (k : KD z G S Wd M low one sq Ri Wd2 M2 low2 one2 sq2 Ri2) {w : World} {key a b n : ByteArray} (k1 : isEl S M key = false) :
    Calls Tryz.prog 8 #[.int .i64 z, .string key, .agg #[.string a, .string b], .string n] w fun e w' => e = .returned (.tuple #[.agg #[.string ⟨#[]⟩, .string ⟨#[]⟩], .int .i64 7]) ∧ Below w.heap.size w w' := by
  have Xk1 : Hid (isEl S M key = false) := k1
  clear k1
  go_enter Tryz.func8, Tryz.ntmps8
  go_wp2_with fail
  obtain ⟨W1, hW1⟩ : ∃ X, X = ((w.alloc (.cells #[.string a, .string b] 24)).alloc (.cells #[.string ⟨#[]⟩, .string ⟨#[]⟩] 24)) := ⟨_, rfl⟩
  have Jc : Hid (IHolds W1 (w.heap.size) 24 [.string a, .string b]) := by
    have q := IHolds.new w 24 [.string a, .string b]
    show IHolds _ _ _ _
    rw [hW1]
    exact (q.alloc _)
  have Jr : Hid (IHolds W1 (w.heap.size + 1) 24 [.string ⟨#[]⟩, .string ⟨#[]⟩]) := by
    have q := IHolds.new (w.alloc (.cells #[.string a, .string b] 24)) 24 [.string ⟨#[]⟩, .string ⟨#[]⟩]
    simp only [World.size_alloc, Nat.add_assoc, Nat.reduceAdd] at q
    show IHolds _ _ _ _
    rw [hW1]
    exact q
  have B : Hid (Below w.heap.size w W1) := by
    show Below _ _ _
    rw [hW1]
    exact (((Below.refl _ w).alloc (Nat.le_refl _) _).alloc (by simp only [World.size_alloc]; omega) _)
  rw [← hW1]
  clear hW1
  have q := GRO k W1
  refine q.mono ?_
  clear q
  rintro e W2 ⟨rfl, hb⟩
  replace B := aB B hb
  replace Jc := aJ Jc hb
  replace Jr := aJ Jr hb
  clear hb
  have hb := nB W2 (.cells #[.int .i64 z] 34)
  have Jg : Hid (IHolds (W2.alloc (.cells #[.int .i64 z] 34)) W2.heap.size 34 [.int .i64 z]) := IHolds.new _ _ _
  have ne_c_g := nJ Jc
  have ne_r_g := nJ Jr
  have ge_g : Hid (w.heap.size ≤ W2.heap.size) := B.out.size
  replace B := aB B hb
  replace Jc := aJ Jc hb
  replace Jr := aJ Jr hb
  clear hb
  go_wp2_with fail
  generalize (W2.alloc (.cells #[.int .i64 z] 34)) = W3 at *
  generalize W2.heap.size = b4 at *
  have q := nEl (s := key) (t := true) k Xk1.out W3
  refine q.mono ?_
  clear q
  rintro e W5 ⟨rfl, hb⟩
  replace B := aB B hb
  replace Jc := aJ Jc hb
  replace Jr := aJ Jr hb
  replace Jg := aJ Jg hb
  clear hb
  obtain ⟨zr_0, zr_1⟩ := cJ Jr
  have f0 := fJ Jr
  have I4 : Hid (IHolds ((W5.setCell ⟨w.heap.size + 1, 0, none⟩ (.string ⟨#[]⟩)).setCell ⟨w.heap.size + 1, 1, none⟩ (.string ⟨#[]⟩)) (w.heap.size + 1) 24 [.string ⟨#[]⟩, .string ⟨#[]⟩]) := ((Jr.out.set 0 _).set 1 _)
  have B4 : Hid (Below w.heap.size w ((W5.setCell ⟨w.heap.size + 1, 0, none⟩ (.string ⟨#[]⟩)).setCell ⟨w.heap.size + 1, 1, none⟩ (.string ⟨#[]⟩))) := ((B.out.setCell (by show w.heap.size ≤ w.heap.size + 1; omega) _).setCell (by show w.heap.size ≤ w.heap.size + 1; omega) _)
  go_wp2_with fail
  clear zr_0 zr_1 f0
  generalize ((W5.setCell ⟨w.heap.size + 1, 0, none⟩ (.string ⟨#[]⟩)).setCell ⟨w.heap.size + 1, 1, none⟩ (.string ⟨#[]⟩)) = W6 at *
  have E0 : Hid (W6.cell? ⟨w.heap.size + 1, 0, none⟩ = some (.string ⟨#[]⟩)) := I4.out.cell 0 (by simp)
  have E1 : Hid (W6.cell? ⟨w.heap.size + 1, 1, none⟩ = some (.string ⟨#[]⟩)) := I4.out.cell 1 (by simp)
  exact bodyPost_ret (v := .tuple #[.agg #[.string ⟨#[]⟩, .string ⟨#[]⟩], .int .i64 7]) (by simp [results, Tryz.results8, go_sem, E0.out, E1.out]) rfl ⟨rfl, B4.out⟩
set_option maxHeartbeats 4000000 in
theorem prog8_B (k : KD z G S Wd M low one sq Ri Wd2 M2 low2 one2 sq2 Ri2) {w : World} {key a b n : ByteArray} (k1 : isEl S M key = true) (k2 : (isEl S M a && isEl S M b) = false) :
    Calls Tryz.prog 8 #[.int .i64 z, .string key, .agg #[.string a, .string b], .string n] w fun e w' => e = .returned (.tuple #[.agg #[.string ⟨#[]⟩, .string ⟨#[]⟩], .int .i64 7]) ∧ Below w.heap.size w w' := by
  have Xk1 : Hid (isEl S M key = true) := k1
  have Xk2 : Hid ((isEl S M a && isEl S M b) = false) := k2
  clear k1 k2
  go_enter Tryz.func8, Tryz.ntmps8
  go_wp2_with fail
  obtain ⟨W1, hW1⟩ : ∃ X, X = ((w.alloc (.cells #[.string a, .string b] 24)).alloc (.cells #[.string ⟨#[]⟩, .string ⟨#[]⟩] 24)) := ⟨_, rfl⟩
  have Jc : Hid (IHolds W1 (w.heap.size) 24 [.string a, .string b]) := by
    have q := IHolds.new w 24 [.string a, .string b]
    show IHolds _ _ _ _
    rw [hW1]
    exact (q.alloc _)
  have Jr : Hid (IHolds W1 (w.heap.size + 1) 24 [.string ⟨#[]⟩, .string ⟨#[]⟩]) := by
    have q := IHolds.new (w.alloc (.cells #[.string a, .string b] 24)) 24 [.string ⟨#[]⟩, .string ⟨#[]⟩]
    simp only [World.size_alloc, Nat.add_assoc, Nat.reduceAdd] at q
    show IHolds _ _ _ _
    rw [hW1]
    exact q
  have B : Hid (Below w.heap.size w W1) := by
    show Below _ _ _
    rw [hW1]
    exact (((Below.refl _ w).alloc (Nat.le_refl _) _).alloc (by simp only [World.size_alloc]; omega) _)
  rw [← hW1]
  clear hW1
  have q := GRO k W1
  refine q.mono ?_
  clear q
  rintro e W2 ⟨rfl, hb⟩
  replace B := aB B hb
  replace Jc := aJ Jc hb
  replace Jr := aJ Jr hb
  clear hb
  have hb := nB W2 (.cells #[.int .i64 z] 34)
  have Jg : Hid (IHolds (W2.alloc (.cells #[.int .i64 z] 34)) W2.heap.size 34 [.int .i64 z]) := IHolds.new _ _ _
  have ne_c_g := nJ Jc
  have ne_r_g := nJ Jr
  have ge_g : Hid (w.heap.size ≤ W2.heap.size) := B.out.size
  replace B := aB B hb
  replace Jc := aJ Jc hb
  replace Jr := aJ Jr hb
  clear hb
  go_wp2_with fail
  generalize (W2.alloc (.cells #[.int .i64 z] 34)) = W3 at *
  generalize W2.heap.size = b4 at *
  have q := nEl (s := key) (t := false) k Xk1.out W3
  refine q.mono ?_
  clear q
  rintro e W5 ⟨rfl, hb⟩
  replace B := aB B hb
  replace Jc := aJ Jc hb
  replace Jr := aJ Jr hb
  replace Jg := aJ Jg hb
  clear hb
  have zg_0 : W5.cell? ⟨b4, 0, none⟩ = some (.int .i64 z) := Jg.out.cell 0 (by simp)
  have zc_0 : W5.cell? ⟨w.heap.size, 0, none⟩ = some (.string a) := Jc.out.cell 0 (by simp)
  have zc_1 : W5.cell? ⟨w.heap.size, 1, none⟩ = some (.string b) := Jc.out.cell 1 (by simp)
  go_wp2_with fail
  clear zg_0 zc_0 zc_1
  have q := noC27 (w := W5) (a := a) (b := b) k
  rw [Xk2.out] at q
  rw [Bool.not_false] at q
  refine q.mono ?_
  clear q
  rintro e W6 ⟨rfl, hb⟩
  replace B := aB B hb
  replace Jc := aJ Jc hb
  replace Jr := aJ Jr hb
  replace Jg := aJ Jg hb
  clear hb
  obtain ⟨zr_0, zr_1⟩ := cJ Jr
  have f0 := fJ Jr
  have I4 : Hid (IHolds ((W6.setCell ⟨w.heap.size + 1, 0, none⟩ (.string ⟨#[]⟩)).setCell ⟨w.heap.size + 1, 1, none⟩ (.string ⟨#[]⟩)) (w.heap.size + 1) 24 [.string ⟨#[]⟩, .string ⟨#[]⟩]) := ((Jr.out.set 0 _).set 1 _)
  have B4 : Hid (Below w.heap.size w ((W6.setCell ⟨w.heap.size + 1, 0, none⟩ (.string ⟨#[]⟩)).setCell ⟨w.heap.size + 1, 1, none⟩ (.string ⟨#[]⟩))) := ((B.out.setCell (by show w.heap.size ≤ w.heap.size + 1; omega) _).setCell (by show w.heap.size ≤ w.heap.size + 1; omega) _)
  go_wp2_with fail
  clear zr_0 zr_1 f0
  generalize ((W6.setCell ⟨w.heap.size + 1, 0, none⟩ (.string ⟨#[]⟩)).setCell ⟨w.heap.size + 1, 1, none⟩ (.string ⟨#[]⟩)) = W7 at *
  have E0 : Hid (W7.cell? ⟨w.heap.size + 1, 0, none⟩ = some (.string ⟨#[]⟩)) := I4.out.cell 0 (by simp)
  have E1 : Hid (W7.cell? ⟨w.heap.size + 1, 1, none⟩ = some (.string ⟨#[]⟩)) := I4.out.cell 1 (by simp)
  exact bodyPost_ret (v := .tuple #[.agg #[.string ⟨#[]⟩, .string ⟨#[]⟩], .int .i64 7]) (by simp [results, Tryz.results8, go_sem, E0.out, E1.out]) rfl ⟨rfl, B4.out⟩
set_option maxHeartbeats 4000000 in
theorem prog8_C (k : KD z G S Wd M low one sq Ri Wd2 M2 low2 one2 sq2 Ri2) {w : World} {key a b n : ByteArray} (k1 : isEl S M key = true) (k2 : (isEl S M a && isEl S M b) = true) (k3 : isSc S M n = false) :
    Calls Tryz.prog 8 #[.int .i64 z, .string key, .agg #[.string a, .string b], .string n] w fun e w' => e = .returned (.tuple #[.agg #[.string ⟨#[]⟩, .string ⟨#[]⟩], .int .i64 6]) ∧ Below w.heap.size w w' := by
  have Xk1 : Hid (isEl S M key = true) := k1
  have Xk2 : Hid ((isEl S M a && isEl S M b) = true) := k2
  have Xk3 : Hid (isSc S M n = false) := k3
  clear k1 k2 k3
  go_enter Tryz.func8, Tryz.ntmps8
  go_wp2_with fail
  obtain ⟨W1, hW1⟩ : ∃ X, X = ((w.alloc (.cells #[.string a, .string b] 24)).alloc (.cells #[.string ⟨#[]⟩, .string ⟨#[]⟩] 24)) := ⟨_, rfl⟩
  have Jc : Hid (IHolds W1 (w.heap.size) 24 [.string a, .string b]) := by
    have q := IHolds.new w 24 [.string a, .string b]
    show IHolds _ _ _ _
    rw [hW1]
    exact (q.alloc _)
  have Jr : Hid (IHolds W1 (w.heap.size + 1) 24 [.string ⟨#[]⟩, .string ⟨#[]⟩]) := by
    have q := IHolds.new (w.alloc (.cells #[.string a, .string b] 24)) 24 [.string ⟨#[]⟩, .string ⟨#[]⟩]
    simp only [World.size_alloc, Nat.add_assoc, Nat.reduceAdd] at q
    show IHolds _ _ _ _
    rw [hW1]
    exact q
  have B : Hid (Below w.heap.size w W1) := by
    show Below _ _ _
    rw [hW1]
    exact (((Below.refl _ w).alloc (Nat.le_refl _) _).alloc (by simp only [World.size_alloc]; omega) _)
  rw [← hW1]
  clear hW1
  have q := GRO k W1
  refine q.mono ?_
  clear q
  rintro e W2 ⟨rfl, hb⟩
  replace B := aB B hb
  replace Jc := aJ Jc hb
  replace Jr := aJ Jr hb
  clear hb
  have hb := nB W2 (.cells #[.int .i64 z] 34)
  have Jg : Hid (IHolds (W2.alloc (.cells #[.int .i64 z] 34)) W2.heap.size 34 [.int .i64 z]) := IHolds.new _ _ _
  have ne_c_g := nJ Jc
  have ne_r_g := nJ Jr
  have ge_g : Hid (w.heap.size ≤ W2.heap.size) := B.out.size
  replace B := aB B hb
  replace Jc := aJ Jc hb
  replace Jr := aJ Jr hb
  clear hb
  go_wp2_with fail
  generalize (W2.alloc (.cells #[.int .i64 z] 34)) = W3 at *
  generalize W2.heap.size = b4 at *
  have q := nEl (s := key) (t := false) k Xk1.out W3
  refine q.mono ?_
  clear q
  rintro e W5 ⟨rfl, hb⟩
  replace B := aB B hb
  replace Jc := aJ Jc hb
  replace Jr := aJ Jr hb
  replace Jg := aJ Jg hb
  clear hb
  have zg_0 : W5.cell? ⟨b4, 0, none⟩ = some (.int .i64 z) := Jg.out.cell 0 (by simp)
  have zc_0 : W5.cell? ⟨w.heap.size, 0, none⟩ = some (.string a) := Jc.out.cell 0 (by simp)
  have zc_1 : W5.cell? ⟨w.heap.size, 1, none⟩ = some (.string b) := Jc.out.cell 1 (by simp)
  go_wp2_with fail
  clear zg_0 zc_0 zc_1
  have q := noC27 (w := W5) (a := a) (b := b) k
  rw [Xk2.out] at q
  rw [Bool.not_true] at q
  refine q.mono ?_
  clear q
  rintro e W6 ⟨rfl, hb⟩
  replace B := aB B hb
  replace Jc := aJ Jc hb
  replace Jr := aJ Jr hb
  replace Jg := aJ Jg hb
  clear hb
  have zg_0 : W6.cell? ⟨b4, 0, none⟩ = some (.int .i64 z) := Jg.out.cell 0 (by simp)
  go_wp2_with fail
  clear zg_0
  have q := nSc (s := n) (t := true) k Xk3.out W6
  refine q.mono ?_
  clear q
  rintro e W7 ⟨rfl, hb⟩
  replace B := aB B hb
  replace Jc := aJ Jc hb
  replace Jr := aJ Jr hb
  replace Jg := aJ Jg hb
  clear hb
  obtain ⟨zr_0, zr_1⟩ := cJ Jr
  have f0 := fJ Jr
  have I4 : Hid (IHolds ((W7.setCell ⟨w.heap.size + 1, 0, none⟩ (.string ⟨#[]⟩)).setCell ⟨w.heap.size + 1, 1, none⟩ (.string ⟨#[]⟩)) (w.heap.size + 1) 24 [.string ⟨#[]⟩, .string ⟨#[]⟩]) := ((Jr.out.set 0 _).set 1 _)
  have B4 : Hid (Below w.heap.size w ((W7.setCell ⟨w.heap.size + 1, 0, none⟩ (.string ⟨#[]⟩)).setCell ⟨w.heap.size + 1, 1, none⟩ (.string ⟨#[]⟩))) := ((B.out.setCell (by show w.heap.size ≤ w.heap.size + 1; omega) _).setCell (by show w.heap.size ≤ w.heap.size + 1; omega) _)
  go_wp2_with fail
  clear zr_0 zr_1 f0
  generalize ((W7.setCell ⟨w.heap.size + 1, 0, none⟩ (.string ⟨#[]⟩)).setCell ⟨w.heap.size + 1, 1, none⟩ (.string ⟨#[]⟩)) = W8 at *
  have E0 : Hid (W8.cell? ⟨w.heap.size + 1, 0, none⟩ = some (.string ⟨#[]⟩)) := I4.out.cell 0 (by simp)
  have E1 : Hid (W8.cell? ⟨w.heap.size + 1, 1, none⟩ = some (.string ⟨#[]⟩)) := I4.out.cell 1 (by simp)
  exact bodyPost_ret (v := .tuple #[.agg #[.string ⟨#[]⟩, .string ⟨#[]⟩], .int .i64 6]) (by simp [results, Tryz.results8, go_sem, E0.out, E1.out]) rfl ⟨rfl, B4.out⟩
set_option maxHeartbeats 4000000 in
theorem prog10_A (k : KD z G S Wd M low one sq Ri Wd2 M2 low2 one2 sq2 Ri2) {w : World} {s a b : ByteArray} (k1 : isSc S M s = false) :
    Calls Tryz.prog 10 #[.int .i64 z, .string s, .agg #[.string a, .string b]] w fun e w' => e = .returned (.tuple #[.string ⟨#[]⟩, .int .i64 6]) ∧ Below w.heap.size w w' := by
  have Xk1 : Hid (isSc S M s = false) := k1
  clear k1
  go_enter Tryz.func10, Tryz.ntmps10
  go_wp2_with fail
  obtain ⟨W1, hW1⟩ : ∃ X, X = (w.alloc (.cells #[.string a, .string b] 24)) := ⟨_, rfl⟩
  have Jc : Hid (IHolds W1 (w.heap.size) 24 [.string a, .string b]) := by
    have q := IHolds.new w 24 [.string a, .string b]
    show IHolds _ _ _ _
    rw [hW1]
    exact q
  have B : Hid (Below w.heap.size w W1) := by
    show Below _ _ _
    rw [hW1]
    exact ((Below.refl _ w).alloc (Nat.le_refl _) _)
  rw [← hW1]
  clear hW1
  have q := GRO k W1
  refine q.mono ?_
  clear q
  rintro e W2 ⟨rfl, hb⟩
  replace B := aB B hb
  replace Jc := aJ Jc hb
  clear hb
  have hb := nB W2 (.cells #[.int .i64 z] 34)
  have Jg : Hid (IHolds (W2.alloc (.cells #[.int .i64 z] 34)) W2.heap.size 34 [.int .i64 z]) := IHolds.new _ _ _
  have ne_c_g := nJ Jc
  have ge_g : Hid (w.heap.size ≤ W2.heap.size) := B.out.size
  replace B := aB B hb
  replace Jc := aJ Jc hb
  clear hb
  go_wp2_with fail
  generalize (W2.alloc (.cells #[.int .i64 z] 34)) = W3 at *
  generalize W2.heap.size = b4 at *
  have q := nSc (s := s) (t := true) k Xk1.out W3
  refine q.mono ?_
  clear q
  rintro e W5 ⟨rfl, hb⟩
  replace B := aB B hb
  replace Jc := aJ Jc hb
  replace Jg := aJ Jg hb
  clear hb
  go_wp2_with fail
  exact bodyPost_ret (v := .tuple #[.string ⟨#[]⟩, .int .i64 6]) (by simp [results, Tryz.results10, go_sem]) rfl ⟨rfl, B.out⟩
set_option maxHeartbeats 4000000 in
theorem prog10_B (k : KD z G S Wd M low one sq Ri Wd2 M2 low2 one2 sq2 Ri2) {w : World} {s a b : ByteArray} (k1 : isSc S M s = true) (k2 : (isEl S M a && isEl S M b) = false) :
    Calls Tryz.prog 10 #[.int .i64 z, .string s, .agg #[.string a, .string b]] w fun e w' => e = .returned (.tuple #[.string ⟨#[]⟩, .int .i64 7]) ∧ Below w.heap.size w w' := by
  have Xk1 : Hid (isSc S M s = true) := k1
  have Xk2 : Hid ((isEl S M a && isEl S M b) = false) := k2
  clear k1 k2
  go_enter Tryz.func10, Tryz.ntmps10
  go_wp2_with fail
  obtain ⟨W1, hW1⟩ : ∃ X, X = (w.alloc (.cells #[.string a, .string b] 24)) := ⟨_, rfl⟩
  have Jc : Hid (IHolds W1 (w.heap.size) 24 [.string a, .string b]) := by
    have q := IHolds.new w 24 [.string a, .string b]
    show IHolds _ _ _ _
    rw [hW1]
    exact q
  have B : Hid (Below w.heap.size w W1) := by
    show Below _ _ _
    rw [hW1]
    exact ((Below.refl _ w).alloc (Nat.le_refl _) _)
  rw [← hW1]
  clear hW1
  have q := GRO k W1
  refine q.mono ?_
  clear q
  rintro e W2 ⟨rfl, hb⟩
  replace B := aB B hb
  replace Jc := aJ Jc hb
  clear hb
  have hb := nB W2 (.cells #[.int .i64 z] 34)
  have Jg : Hid (IHolds (W2.alloc (.cells #[.int .i64 z] 34)) W2.heap.size 34 [.int .i64 z]) := IHolds.new _ _ _
  have ne_c_g := nJ Jc
  have ge_g : Hid (w.heap.size ≤ W2.heap.size) := B.out.size
  replace B := aB B hb
  replace Jc := aJ Jc hb
  clear hb
  go_wp2_with fail
  generalize (W2.alloc (.cells #[.int .i64 z] 34)) = W3 at *
  generalize W2.heap.size = b4 at *
  have q := nSc (s := s) (t := false) k Xk1.out W3
  refine q.mono ?_
  clear q
  rintro e W5 ⟨rfl, hb⟩
  replace B := aB B hb
  replace Jc := aJ Jc hb
  replace Jg := aJ Jg hb
  clear hb
  have zg_0 : W5.cell? ⟨b4, 0, none⟩ = some (.int .i64 z) := Jg.out.cell 0 (by simp)
  have zc_0 : W5.cell? ⟨w.heap.size, 0, none⟩ = some (.string a) := Jc.out.cell 0 (by simp)
  have zc_1 : W5.cell? ⟨w.heap.size, 1, none⟩ = some (.string b) := Jc.out.cell 1 (by simp)
  go_wp2_with fail
  clear zg_0 zc_0 zc_1
  have q := noC27 (w := W5) (a := a) (b := b) k
  rw [Xk2.out] at q
  rw [Bool.not_false] at q
  refine q.mono ?_
  clear q
  rintro e W6 ⟨rfl, hb⟩
  replace B := aB B hb
  replace Jc := aJ Jc hb
  replace Jg := aJ Jg hb
  clear hb
  go_wp2_with fail
  exact bodyPost_ret (v := .tuple #[.string ⟨#[]⟩, .int .i64 7]) (by simp [results, Tryz.results10, go_sem]) rfl ⟨rfl, B.out⟩
end
end Go.Proofs.YtohpbclofcflaaaGreat
namespace Go.Proofs.YtohpbclofcflaaaGreat
open Go.RowKit Go.Deep Go.PlainAid

def CL (w : World) (a : Option Addr) (L : List (ByteArray × ByteArray)) : Prop := ∀ i (hi : i < L.length), ∃ b o, a = some ⟨b, o, none⟩ ∧ w.cell? ⟨b, o + i * 2, none⟩ = some (.string L[i].1) ∧ w.cell? ⟨b, o + i * 2 + 1, none⟩ = some (.string L[i].2)
theorem cell_keep {w w' : World} {a : Addr} {v : Value} (h : w.cell? a = some v) (hb : Below w.heap.size w w') : w'.cell? a = some v := by
  rw [hb.cell (World.block_lt_of_cell? w a h)]; exact h
theorem CL.of_below {w w' : World} {a : Option Addr} {L : List (ByteArray × ByteArray)} (h : CL w a L) (hb : Below w.heap.size w w') : CL w' a L := fun i hi => by
  obtain ⟨b, o, e, h1, h2⟩ := h i hi
  exact ⟨b, o, e, cell_keep h1 hb, cell_keep h2 hb⟩
theorem any_take {α : Type} {L : List α} {f : α → Bool} {i : Nat} (hi : i < L.length) (h : (L.take i).any f = false) : (L.take (i + 1)).any f = f L[i] := by
  rw [List.take_add_one, List.any_append, h, List.getElem?_eq_getElem hi]
  simp
theorem any_hit {α : Type} {L : List α} {f : α → Bool} {i : Nat} (hi : i < L.length) (h : f L[i] = true) : L.any f = true := List.any_eq_true.2 ⟨L[i], List.getElem_mem hi, h⟩
def CFn (z : Int) (f : ByteArray × ByteArray → Bool) : Prop := ∀ W (c : ByteArray × ByteArray), Calls Tryz.prog 27 #[.agg #[.int .i64 z], .agg #[.string c.1, .string c.2]] W fun e w' => e = .returned (.bool (f c)) ∧ Below W.heap.size W w'
set_option maxHeartbeats 4000000 in
theorem index66 {w : World} {z : Int} {ca : Option Addr} {cc : Nat} {L : List (ByteArray × ByteArray)} {f : ByteArray × ByteArray → Bool} (hl : L.length ≤ 4611686018427387903)
    (CF : CFn z f) (hL : CL w ca L) :
    Calls Tryz.prog 66 #[.slice ca L.length cc, .func (.func 27) #[.agg #[.int .i64 z]] #[]] w fun e w' => (∃ r : Int, e = .returned (.int .i64 r) ∧ decide (0 ≤ r) = L.any f) ∧ Below w.heap.size w w' := by
  have HL : Hid (CL w ca L) := hL
  clear hL
  go_enter Tryz.func66, Tryz.ntmps66
  go_wp2_with fail
  go_loopg [5, 8] L.length (fun gk v5 v8 wr => ∃ i : Nat, i + gk = L.length ∧ v8 = .int .i64 (i : Int) ∧ Below w.heap.size w wr ∧ (L.take i).any f = false)
  case atStart => exact ⟨0, by omega, rfl, Below.refl _ _, rfl⟩
  case round =>
    obtain ⟨i, hig, rfl, hB, hf⟩ := hrel
    have B : Hid (Below w.heap.size w wr) := hB
    have HF : Hid ((L.take i).any f = false) := hf
    clear hB hf
    by_cases hi : i < L.length
    · have il : (i : Int) < (L.length : Int) := by omega
      obtain ⟨b1, o1, rfl, c1, c2⟩ := (HL.out.of_below B.out) i hi
      have AT := any_take hi HF.out
      have HIT := any_hit (f := f) hi
      have CFi := CF wr L[i]
      replace AT : Hid _ := AT
      replace HIT : Hid _ := HIT
      generalize L[i] = c at *
      obtain ⟨x, y⟩ := c
      simp only [] at CFi
      replace CFi : Hid (Calls Tryz.prog 27 #[.agg #[.int .i64 z], .agg #[.string x, .string y]] wr fun e w' => e = .returned (.bool (f (x, y))) ∧ Below wr.heap.size wr w') := CFi
      generalize f (x, y) = t at *
      cases t with
      | true =>
        go_wp2_with fail
        refine CFi.out.mono ?_
        rintro e W2 ⟨rfl, hb⟩
        have B2 : Hid (Below w.heap.size w W2) := B.out.trans (hb.mono B.out.size)
        clear hb c1 c2
        go_wp2_with fail
        go_ret
        have hy : L.any f = true := by first | exact HIT.out rfl | exact HIT.out trivial | exact HIT.out
        exact ⟨⟨_, rfl, by rw [hy]; exact decide_eq_true (by omega)⟩, B2.out⟩
      | false =>
        go_wp2_with fail
        refine CFi.out.mono ?_
        rintro e W2 ⟨rfl, hb⟩
        have B2 : Hid (Below w.heap.size w W2) := B.out.trans (hb.mono B.out.size)
        clear hb c1 c2
        go_wp2_with fail
        go_roundg (gk - 1)
        case measure => omega
        case rel => exact ⟨i + 1, by omega, by go_num, B2.out, AT.out⟩
    have il : ¬ (i : Int) < (L.length : Int) := by omega
    have ei : i = L.length := by omega
    rw [ei, List.take_length] at HF
    clear ei
    go_wp2_with fail
    go_ret
    exact ⟨⟨_, rfl, by rw [HF.out]; rfl⟩, B.out⟩
theorem contains46 {w : World} {z : Int} {ca : Option Addr} {cc : Nat} {L : List (ByteArray × ByteArray)} {f : ByteArray × ByteArray → Bool} (hl : L.length ≤ 4611686018427387903)
    (CF : CFn z f) (hL : CL w ca L) :
    Calls Tryz.prog 46 #[.slice ca L.length cc, .func (.func 27) #[.agg #[.int .i64 z]] #[]] w fun e w' => e = .returned (.bool (L.any f)) ∧ Below w.heap.size w w' := by
  have HC : Hid (Calls Tryz.prog 66 #[.slice ca L.length cc, .func (.func 27) #[.agg #[.int .i64 z]] #[]] w fun e w' => (∃ r : Int, e = .returned (.int .i64 r) ∧ decide (0 ≤ r) = L.any f) ∧ Below w.heap.size w w') := index66 (cc := cc) hl CF hL
  clear CF hL
  go_enter Tryz.func46, Tryz.ntmps46
  go_wp2_with fail
  refine HC.out.mono ?_
  rintro e W2 ⟨⟨r, rfl, hr⟩, hb⟩
  go_wp2_with fail
  go_ret
  exact ⟨by rw [← hr]; rfl, hb⟩
theorem strange21 {w : World} {z : Int} {ca : Option Addr} {cc : Nat} {L : List (ByteArray × ByteArray)} {f : ByteArray × ByteArray → Bool} (hl : L.length ≤ 4611686018427387903)
    (CF : CFn z f) (hL : CL w ca L) :
    Calls Tryz.prog 21 #[.agg #[.int .i64 z], .slice ca L.length cc] w fun e w' => e = .returned (.bool (L.any f)) ∧ Below w.heap.size w w' := by
  have HC : Hid (∀ V, Below w.heap.size w V → Calls Tryz.prog 46 #[.slice ca L.length cc, .func (.func 27) #[.agg #[.int .i64 z]] #[]] V fun e w' => e = .returned (.bool (L.any f)) ∧ Below V.heap.size V w') := fun V hV => contains46 (cc := cc) hl CF (hL.of_below hV)
  clear CF hL
  go_enter Tryz.func21, Tryz.ntmps21
  go_wp2_with fail
  obtain ⟨W1, hW1⟩ : ∃ X, X = (w.alloc (.cells #[.int .i64 z] 34)) := ⟨_, rfl⟩
  have Jg : Hid (IHolds W1 (w.heap.size) 34 [.int .i64 z]) := by
    have q := IHolds.new w 34 [.int .i64 z]
    show IHolds _ _ _ _
    rw [hW1]
    exact q
  have B : Hid (Below w.heap.size w W1) := by
    show Below _ _ _
    rw [hW1]
    exact ((Below.refl _ w).alloc (Nat.le_refl _) _)
  rw [← hW1]
  clear hW1
  refine (HC.out _ B.out).mono ?_
  rintro e W2 ⟨rfl, hb⟩
  replace B := aB B hb
  replace Jg := aJ Jg hb
  clear hb
  go_wp2_with fail
  go_ret
  exact ⟨rfl, B.out⟩
section
variable {z : Int} {G : Array Value} {S Wd M low one sq Ri Wd2 M2 low2 one2 sq2 Ri2 : Nat}
theorem cfn (k : KD z G S Wd M low one sq Ri Wd2 M2 low2 one2 sq2 Ri2) : CFn z (fun c => !(isEl S M c.1 && isEl S M c.2)) := fun W c => noC27 k
set_option maxHeartbeats 4000000 in
theorem prog6_A (k : KD z G S Wd M low one sq Ri Wd2 M2 low2 one2 sq2 Ri2) {w : World} {ca : Option Addr} {cc : Nat} {L : List (ByteArray × ByteArray)} (hl : L.length ≤ 4611686018427387903) (hL : CL w ca L) (hx : L.any (fun c => !(isEl S M c.1 && isEl S M c.2)) = true) :
    Calls Tryz.prog 6 #[.int .i64 z, .slice ca L.length cc] w fun e w' => e = .returned (.tuple #[.agg #[.string ⟨#[]⟩, .string ⟨#[]⟩], .int .i64 7]) ∧ Below w.heap.size w w' := by
  have HC : Hid (∀ V, Below w.heap.size w V → Calls Tryz.prog 21 #[.agg #[.int .i64 z], .slice ca L.length cc] V fun e w' => e = .returned (.bool true) ∧ Below V.heap.size V w') := fun V hV => by rw [← hx]; exact strange21 hl (cfn k) (hL.of_below hV)
  clear hx hL
  go_enter Tryz.func6, Tryz.ntmps6
  go_wp2_with fail
  obtain ⟨W1, hW1⟩ : ∃ X, X = (w.alloc (.cells #[.string ⟨#[]⟩, .string ⟨#[]⟩] 24)) := ⟨_, rfl⟩
  have Jr : Hid (IHolds W1 (w.heap.size) 24 [.string ⟨#[]⟩, .string ⟨#[]⟩]) := by
    have q := IHolds.new w 24 [.string ⟨#[]⟩, .string ⟨#[]⟩]
    show IHolds _ _ _ _
    rw [hW1]
    exact q
  have B : Hid (Below w.heap.size w W1) := by
    show Below _ _ _
    rw [hW1]
    exact ((Below.refl _ w).alloc (Nat.le_refl _) _)
  rw [← hW1]
  clear hW1
  have q := GRO k W1
  refine q.mono ?_
  clear q
  rintro e W2 ⟨rfl, hb⟩
  replace B := aB B hb
  replace Jr := aJ Jr hb
  clear hb
  have hb := nB W2 (.cells #[.int .i64 z] 34)
  have Jg : Hid (IHolds (W2.alloc (.cells #[.int .i64 z] 34)) W2.heap.size 34 [.int .i64 z]) := IHolds.new _ _ _
  have ne_r_g := nJ Jr
  have ge_g : Hid (w.heap.size ≤ W2.heap.size) := B.out.size
  replace B := aB B hb
  replace Jr := aJ Jr hb
  clear hb
  go_wp2_with fail
  generalize (W2.alloc (.cells #[.int .i64 z] 34)) = W3 at *
  generalize W2.heap.size = b4 at *
  have q := HC.out W3 B.out
  refine q.mono ?_
  clear q
  rintro e W5 ⟨rfl, hb⟩
  replace B := aB B hb
  replace Jr := aJ Jr hb
  replace Jg := aJ Jg hb
  clear hb
  obtain ⟨zr_0, zr_1⟩ := cJ Jr
  have f0 := fJ Jr
  have I4 : Hid (IHolds ((W5.setCell ⟨w.heap.size, 0, none⟩ (.string ⟨#[]⟩)).setCell ⟨w.heap.size, 1, none⟩ (.string ⟨#[]⟩)) (w.heap.size) 24 [.string ⟨#[]⟩, .string ⟨#[]⟩]) := ((Jr.out.set 0 _).set 1 _)
  have B4 : Hid (Below w.heap.size w ((W5.setCell ⟨w.heap.size, 0, none⟩ (.string ⟨#[]⟩)).setCell ⟨w.heap.size, 1, none⟩ (.string ⟨#[]⟩))) := ((B.out.setCell (by show w.heap.size ≤ w.heap.size; omega) _).setCell (by show w.heap.size ≤ w.heap.size; omega) _)
  go_wp2_with fail
  clear zr_0 zr_1 f0
  generalize ((W5.setCell ⟨w.heap.size, 0, none⟩ (.string ⟨#[]⟩)).setCell ⟨w.heap.size, 1, none⟩ (.string ⟨#[]⟩)) = W6 at *
  have E0 : Hid (W6.cell? ⟨w.heap.size, 0, none⟩ = some (.string ⟨#[]⟩)) := I4.out.cell 0 (by simp)
  have E1 : Hid (W6.cell? ⟨w.heap.size, 1, none⟩ = some (.string ⟨#[]⟩)) := I4.out.cell 1 (by simp)
  exact bodyPost_ret (v := .tuple #[.agg #[.string ⟨#[]⟩, .string ⟨#[]⟩], .int .i64 7]) (by simp [results, Tryz.results6, go_sem, E0.out, E1.out]) rfl ⟨rfl, B4.out⟩
end
end Go.Proofs.YtohpbclofcflaaaGreat
namespace Go.Proofs.YtohpbclofcflaaaGreat
open Go.RowKit Go.Deep Go.PlainAid

def PF {α : Type} (g : α → Nat) (L : List α) : Nat := (L.map g).foldl (· * ·) 1
theorem PF_nil {α : Type} (g : α → Nat) : PF g [] = 1 := rfl
theorem PF_take {α : Type} {g : α → Nat} {L : List α} {i : Nat} (hi : i < L.length) : PF g (L.take (i + 1)) = PF g (L.take i) * g L[i] := by
  unfold PF
  rw [List.take_add_one, List.getElem?_eq_getElem hi, List.map_append, List.foldl_append]
  rfl
section
variable {z : Int} {G : Array Value} {S Wd M low one sq Ri Wd2 M2 low2 one2 sq2 Ri2 : Nat}
theorem PF_nd {α : Type} {g : α → Nat} (h : PK S M M2) (n1 : ¬ M2 ∣ 1) : ∀ i (L : List α), i ≤ L.length → (∀ c ∈ L, ¬ M2 ∣ g c) → ¬ M2 ∣ PF g (L.take i)
  | 0, L, _, _ => n1
  | i + 1, L, hi, hc => by
    rw [PF_take (by omega)]
    exact h.nm (PF_nd h n1 i L (by omega) hc) (hc _ (List.getElem_mem _))
theorem one_nd (h : PK S M M2) : ¬ M2 ∣ 1 := fun q => by
  have := Nat.le_of_dvd (by omega) q
  have := h.e2
  have := h.m1
  omega
theorem both_el {L : List (ByteArray × ByteArray)} (h : L.any (fun c => !(isEl S M c.1 && isEl S M c.2)) = false) {c : ByteArray × ByteArray} (hc : c ∈ L) : isEl S M c.1 = true ∧ isEl S M c.2 = true := by
  have q := List.any_eq_false.1 h c hc
  simp only [Bool.not_eq_true', Bool.not_eq_false, Bool.and_eq_true] at q
  exact q
theorem BOTH (k : KD z G S Wd M low one sq Ri Wd2 M2 low2 one2 sq2 Ri2) (h : PK S M M2) {A B C D : Nat} (hA : ¬ M2 ∣ A) (hB : ¬ M2 ∣ B) (hC : ¬ M2 ∣ C) (hD : ¬ M2 ∣ D) (W : World) :
    Calls Tryz.prog 28 #[.agg #[.int .i64 z], .agg #[.string (EX S M M2 A), .string (EX S M M2 B)], .agg #[.string (EX S M M2 C), .string (EX S M M2 D)]] W fun e w' => e = .returned (.agg #[.string (EX S M M2 (A * C)), .string (EX S M M2 (B * D))]) ∧ Below W.heap.size W w' :=
  both23 (fun V => times45 (fun V => TIM k h hA hC V)) (fun V => times45 (fun V => TIM k h hB hD V))
set_option maxHeartbeats 4000000 in
theorem sum22 (k : KD z G S Wd M low one sq Ri Wd2 M2 low2 one2 sq2 Ri2) (h : PK S M M2) {w : World} {ca : Option Addr} {cc : Nat} {L : List (ByteArray × ByteArray)} (hl : L.length ≤ 4611686018427387903) (hL : CL w ca L) (hx : L.any (fun c => !(isEl S M c.1 && isEl S M c.2)) = false) :
    Calls Tryz.prog 22 #[.agg #[.int .i64 z], .slice ca L.length cc] w fun e w' => e = .returned (.agg #[.string (EX S M M2 (PF (fun c : ByteArray × ByteArray => numS c.1) L)), .string (EX S M M2 (PF (fun c : ByteArray × ByteArray => numS c.2) L))]) ∧ Below w.heap.size w w' := by
  have HL : Hid (CL w ca L) := hL
  obtain ⟨ff, hff⟩ : ∃ ff : Nat → ByteArray, ff = fun i => EX S M M2 (PF (fun c : ByteArray × ByteArray => numS c.1) (L.take i)) := ⟨_, rfl⟩
  obtain ⟨gg, hgg⟩ : ∃ gg : Nat → ByteArray, gg = fun i => EX S M M2 (PF (fun c : ByteArray × ByteArray => numS c.2) (L.take i)) := ⟨_, rfl⟩
  have ST : Hid (∀ i (hi : i < L.length) V, Calls Tryz.prog 28 #[.agg #[.int .i64 z], .agg #[.string (ff i), .string (gg i)], .agg #[.string L[i].1, .string L[i].2]] V fun e w' => e = .returned (.agg #[.string (ff (i + 1)), .string (gg (i + 1))]) ∧ Below V.heap.size V w') := fun i hi V => by
    have hc := both_el hx (List.getElem_mem hi)
    have n1 : ∀ c ∈ L, ¬ M2 ∣ (fun c : ByteArray × ByteArray => numS c.1) c := fun c hc => el_nd h (both_el hx hc).1
    have n2 : ∀ c ∈ L, ¬ M2 ∣ (fun c : ByteArray × ByteArray => numS c.2) c := fun c hc => el_nd h (both_el hx hc).2
    have q := BOTH k h (PF_nd h (one_nd h) i L (by omega) n1) (PF_nd h (one_nd h) i L (by omega) n2) (n1 _ (List.getElem_mem hi)) (n2 _ (List.getElem_mem hi)) V
    rw [← PF_take hi, ← PF_take hi, el_EX h hc.1, el_EX h hc.2] at q
    rw [hff, hgg]
    exact q
  have E0' : Hid (EX S M M2 (2 ^ 0) = ff 0 ∧ EX S M M2 (2 ^ 0) = gg 0) := by rw [hff, hgg]; exact ⟨rfl, rfl⟩
  have EL : Hid (EX S M M2 (PF (fun c : ByteArray × ByteArray => numS c.1) L) = ff L.length ∧ EX S M M2 (PF (fun c : ByteArray × ByteArray => numS c.2) L) = gg L.length) := by rw [hff, hgg]; exact ⟨by simp only [List.take_length], by simp only [List.take_length]⟩
  rw [EL.out.1, EL.out.2]
  clear hff hgg EL hx hL
  obtain ⟨T0, hT0⟩ : ∃ T0, EX S M M2 (2 ^ 0) = T0 := ⟨_, rfl⟩
  rw [hT0] at E0'
  have R1 : Hid (∀ V, Calls Tryz.prog 36 #[.agg #[.int .i64 z]] V fun e w' => e = .returned (.string (EX S M M2 2)) ∧ Below V.heap.size V w') := fun V => base43 (fun V => BAS k h V)
  have R2 : Hid (∀ V, Calls Tryz.prog 29 #[.agg #[.int .i64 z], .int .i64 0] V fun e w' => e = .returned (.string (TX S 0)) ∧ Below V.heap.size V w') := fun V => number24 (fun V => zero_call k V)
  have R3 : Hid (∀ V, Calls Tryz.prog 37 #[.agg #[.int .i64 z], .string (EX S M M2 2), .string (TX S 0)] V fun e w' => e = .returned (.string T0) ∧ Below V.heap.size V w') := fun V => by rw [← hT0]; exact power44 (fun V => POW k h h.n2 (by have := h.m1; omega) V)
  clear hT0
  generalize EX S M M2 2 = t2 at *
  generalize TX S 0 = t0 at *
  go_enter Tryz.func22, Tryz.ntmps22
  go_wp2_with fail
  obtain ⟨W1, hW1⟩ : ∃ X, X = ((w.alloc (.cells #[.int .i64 z] 34)).alloc (.cells #[.string ⟨#[]⟩, .string ⟨#[]⟩] 24)) := ⟨_, rfl⟩
  have Jg : Hid (IHolds W1 (w.heap.size) 34 [.int .i64 z]) := by
    have q := IHolds.new w 34 [.int .i64 z]
    show IHolds _ _ _ _
    rw [hW1]
    exact (q.alloc _)
  have Jr : Hid (IHolds W1 (w.heap.size + 1) 24 [.string ⟨#[]⟩, .string ⟨#[]⟩]) := by
    have q := IHolds.new (w.alloc (.cells #[.int .i64 z] 34)) 24 [.string ⟨#[]⟩, .string ⟨#[]⟩]
    simp only [World.size_alloc, Nat.add_assoc, Nat.reduceAdd] at q
    show IHolds _ _ _ _
    rw [hW1]
    exact q
  have B : Hid (Below w.heap.size w W1) := by
    show Below _ _ _
    rw [hW1]
    exact (((Below.refl _ w).alloc (Nat.le_refl _) _).alloc (by simp only [World.size_alloc]; omega) _)
  rw [← hW1]
  clear hW1
  obtain ⟨W, rfl⟩ : ∃ W, W = W1 := ⟨_, rfl⟩
  have sB : Hid (∀ V V', Below V.heap.size V V' → Below W.heap.size W V → Below W.heap.size W V') := fun V V' h h' => h'.trans (h.mono h'.size)
  have KP : Hid (∀ V, Below W.heap.size W V → (V.cell? ⟨w.heap.size, 0, none⟩ = some (.int .i64 z))) := fun V hV => (Jg.out.of_below hV).cell 0 (by simp)
  go_region_held3 (fun V => V.cell? ⟨w.heap.size, 0, none⟩ = some (.int .i64 z))
    (first | exact KP.out _ (dB _) | assumption | exact KP.out _ D8.out | exact KP.out _ D7.out | exact KP.out _ D6.out | fail)
    (first
      | (go_at_call 36; refine (R1.out _).mono ?_; rintro e v6 ⟨rfl, hB6⟩; have D6 : Hid (Below W.heap.size W v6) := sB.out _ _ hB6 (dB _); clear R1)
      | (go_at_call 29; refine (R2.out _).mono ?_; rintro e v7 ⟨rfl, hB7⟩; have D7 : Hid (Below W.heap.size W v7) := sB.out _ _ hB7 D6.out; clear R2)
      | (go_at_call 37; refine (R3.out _).mono ?_; rintro e v8 ⟨rfl, hB8⟩; have D8 : Hid (Below W.heap.size W v8) := sB.out _ _ hB8 D7.out; clear R3)
      | fail)
  have hb := D8.out
  replace B := aB B hb
  replace Jg := aJ Jg hb
  replace Jr := aJ Jr hb
  clear hb
  clear D6 D7 D8 KP sB
  have hb := nB v8 (.cells #[.string T0, .string T0] 24)
  have Ja : Hid (IHolds (v8.alloc (.cells #[.string T0, .string T0] 24)) v8.heap.size 24 [.string T0, .string T0]) := IHolds.new _ _ _
  have ne_g_a := nJ Jg
  have ne_r_a := nJ Jr
  have ge_a : Hid (w.heap.size ≤ v8.heap.size) := B.out.size
  replace B := aB B hb
  replace Jg := aJ Jg hb
  replace Jr := aJ Jr hb
  clear hb
  go_wp2_with fail
  generalize (v8.alloc (.cells #[.string T0, .string T0] 24)) = W2 at *
  generalize v8.heap.size = b3 at *
  go_loopg [8, 20] L.length (fun gk v8 v20 wr => ∃ i : Nat, i + gk = L.length ∧ v20 = .int .i64 (i : Int) ∧ Below w.heap.size w wr ∧ IHolds wr w.heap.size 34 [.int .i64 z] ∧ IHolds wr (w.heap.size + 1) 24 [.string ⟨#[]⟩, .string ⟨#[]⟩] ∧ IHolds wr b3 24 [.string (ff i), .string (gg i)])
  case atStart => exact ⟨0, by omega, rfl, B.out, Jg.out, Jr.out, by rw [← E0'.out.1, ← E0'.out.2]; exact Ja.out⟩
  clear B Jg Jr Ja
  case round =>
    obtain ⟨i, hig, rfl, hB, h1, h2, h3⟩ := hrel
    have B : Hid (Below w.heap.size w wr) := hB
    have Jg : Hid (IHolds wr w.heap.size 34 [.int .i64 z]) := h1
    have Jr : Hid (IHolds wr (w.heap.size + 1) 24 [.string ⟨#[]⟩, .string ⟨#[]⟩]) := h2
    have Ja : Hid (IHolds wr b3 24 [.string (ff i), .string (gg i)]) := h3
    clear hB h1 h2 h3
    by_cases hi : i < L.length
    · have il : (i : Int) < (L.length : Int) := by omega
      obtain ⟨b1, o1, rfl, c1, c2⟩ := (HL.out.of_below B.out) i hi
      have STi : Hid (∀ V, Calls Tryz.prog 28 #[.agg #[.int .i64 z], .agg #[.string (ff i), .string (gg i)], .agg #[.string L[i].1, .string L[i].2]] V fun e w' => e = .returned (.agg #[.string (ff (i + 1)), .string (gg (i + 1))]) ∧ Below V.heap.size V w') := ST.out i hi
      generalize L[i] = c at *
      obtain ⟨x, y⟩ := c
      have hb := nB wr (.cells #[.string x, .string y] 24)
      have Jc : Hid (IHolds (wr.alloc (.cells #[.string x, .string y] 24)) wr.heap.size 24 [.string x, .string y]) := IHolds.new _ _ _
      replace B := aB B hb
      replace Jg := aJ Jg hb
      replace Jr := aJ Jr hb
      replace Ja := aJ Ja hb
      clear hb
      have zg_0 : (wr.alloc (.cells #[.string x, .string y] 24)).cell? ⟨w.heap.size, 0, none⟩ = some (.int .i64 z) := Jg.out.cell 0 (by simp)
      have za_0 : (wr.alloc (.cells #[.string x, .string y] 24)).cell? ⟨b3, 0, none⟩ = some (.string (ff i)) := Ja.out.cell 0 (by simp)
      have za_1 : (wr.alloc (.cells #[.string x, .string y] 24)).cell? ⟨b3, 1, none⟩ = some (.string (gg i)) := Ja.out.cell 1 (by simp)
      go_wp2_with fail
      clear zg_0 za_0 za_1 c1 c2
      generalize (wr.alloc (.cells #[.string x, .string y] 24)) = W1 at *
      refine (STi.out _).mono ?_
      rintro e W51 ⟨rfl, hb⟩
      replace B := aB B hb
      replace Jg := aJ Jg hb
      replace Jr := aJ Jr hb
      replace Ja := aJ Ja hb
      clear hb
      obtain ⟨za_0, za_1⟩ := cJ Ja
      have f0 := fJ Ja
      have hBut : But (b3) W51 ((W51.setCell ⟨b3, 0, none⟩ (.string (ff (i + 1)))).setCell ⟨b3, 1, none⟩ (.string (gg (i + 1)))) := (((But.refl _ W51).setCell 0 _).setCell 1 _)
      have Jg2 := tJ Jg hBut (by first | exact fun h => ne_g_a.out h | exact fun h => ne_g_a.out h.symm)
      have Jr2 := tJ Jr hBut (by first | exact fun h => ne_r_a.out h | exact fun h => ne_r_a.out h.symm)
      have Ja2 : Hid (IHolds ((W51.setCell ⟨b3, 0, none⟩ (.string (ff (i + 1)))).setCell ⟨b3, 1, none⟩ (.string (gg (i + 1)))) (b3) 24 [.string (ff (i + 1)), .string (gg (i + 1))]) := ((Ja.out.set 0 _).set 1 _)
      have B4 : Hid (Below w.heap.size w ((W51.setCell ⟨b3, 0, none⟩ (.string (ff (i + 1)))).setCell ⟨b3, 1, none⟩ (.string (gg (i + 1))))) := ((B.out.setCell ge_a.out _).setCell ge_a.out _)
      go_wp2_with fail
      go_roundg (gk - 1)
      case measure => omega
      case rel => exact ⟨i + 1, by omega, by go_num, B4.out, Jg2.out, Jr2.out, Ja2.out⟩
    have il : ¬ (i : Int) < (L.length : Int) := by omega
    obtain rfl : i = L.length := by omega
    have za_0 : wr.cell? ⟨b3, 0, none⟩ = some (.string (ff L.length)) := Ja.out.cell 0 (by simp)
    have za_1 : wr.cell? ⟨b3, 1, none⟩ = some (.string (gg L.length)) := Ja.out.cell 1 (by simp)
    obtain ⟨zr_0, zr_1⟩ := cJ Jr
    have f0 := fJ Jr
    have I4 : Hid (IHolds ((wr.setCell ⟨w.heap.size + 1, 0, none⟩ (.string (ff L.length))).setCell ⟨w.heap.size + 1, 1, none⟩ (.string (gg L.length))) (w.heap.size + 1) 24 [.string (ff L.length), .string (gg L.length)]) := ((Jr.out.set 0 _).set 1 _)
    have B4 : Hid (Below w.heap.size w ((wr.setCell ⟨w.heap.size + 1, 0, none⟩ (.string (ff L.length))).setCell ⟨w.heap.size + 1, 1, none⟩ (.string (gg L.length)))) := ((B.out.setCell (by show w.heap.size ≤ w.heap.size + 1; omega) _).setCell (by show w.heap.size ≤ w.heap.size + 1; omega) _)
    go_wp2_with fail
    clear zr_0 zr_1 f0
    generalize ((wr.setCell ⟨w.heap.size + 1, 0, none⟩ (.string (ff L.length))).setCell ⟨w.heap.size + 1, 1, none⟩ (.string (gg L.length))) = W81 at *
    have E0 : Hid (W81.cell? ⟨w.heap.size + 1, 0, none⟩ = some (.string (ff L.length))) := I4.out.cell 0 (by simp)
    have E1 : Hid (W81.cell? ⟨w.heap.size + 1, 1, none⟩ = some (.string (gg L.length))) := I4.out.cell 1 (by simp)
    exact bodyPost_ret (v := .agg #[.string (ff L.length), .string (gg L.length)]) (by simp [results, Tryz.results22, go_sem, E0.out, E1.out]) rfl ⟨rfl, B4.out⟩
end
end Go.Proofs.YtohpbclofcflaaaGreat
namespace Go.Proofs.YtohpbclofcflaaaGreat
open Go.RowKit Go.Deep Go.PlainAid

section
variable {z : Int} {G : Array Value} {S Wd M low one sq Ri Wd2 M2 low2 one2 sq2 Ri2 : Nat}
set_option maxHeartbeats 4000000 in
theorem prog6_ok (k : KD z G S Wd M low one sq Ri Wd2 M2 low2 one2 sq2 Ri2) (h : PK S M M2) {w : World} {ca : Option Addr} {cc : Nat} {L : List (ByteArray × ByteArray)} (hl : L.length ≤ 4611686018427387903) (hL : CL w ca L) (hx : L.any (fun c => !(isEl S M c.1 && isEl S M c.2)) = false) :
    Calls Tryz.prog 6 #[.int .i64 z, .slice ca L.length cc] w fun e w' => e = .returned (.tuple #[.agg #[.string (EX S M M2 (PF (fun c : ByteArray × ByteArray => numS c.1) L)), .string (EX S M M2 (PF (fun c : ByteArray × ByteArray => numS c.2) L))], .int .i64 0]) ∧ Below w.heap.size w w' := by
  obtain ⟨T1, hT1⟩ : ∃ T1, EX S M M2 (PF (fun c : ByteArray × ByteArray => numS c.1) L) = T1 := ⟨_, rfl⟩
  obtain ⟨T2, hT2⟩ : ∃ T2, EX S M M2 (PF (fun c : ByteArray × ByteArray => numS c.2) L) = T2 := ⟨_, rfl⟩
  rw [hT1, hT2]
  have HC : Hid (∀ V, Below w.heap.size w V → Calls Tryz.prog 21 #[.agg #[.int .i64 z], .slice ca L.length cc] V fun e w' => e = .returned (.bool false) ∧ Below V.heap.size V w') := fun V hV => by rw [← hx]; exact strange21 hl (cfn k) (hL.of_below hV)
  have HS : Hid (∀ V, Below w.heap.size w V → Calls Tryz.prog 22 #[.agg #[.int .i64 z], .slice ca L.length cc] V fun e w' => e = .returned (.agg #[.string T1, .string T2]) ∧ Below V.heap.size V w') := fun V hV => by rw [← hT1, ← hT2]; exact sum22 k h hl (hL.of_below hV) hx
  clear hx hL hT1 hT2
  go_enter Tryz.func6, Tryz.ntmps6
  go_wp2_with fail
  obtain ⟨W1, hW1⟩ : ∃ X, X = (w.alloc (.cells #[.string ⟨#[]⟩, .string ⟨#[]⟩] 24)) := ⟨_, rfl⟩
  have Jr : Hid (IHolds W1 (w.heap.size) 24 [.string ⟨#[]⟩, .string ⟨#[]⟩]) := by
    have q := IHolds.new w 24 [.string ⟨#[]⟩, .string ⟨#[]⟩]
    show IHolds _ _ _ _
    rw [hW1]
    exact q
  have B : Hid (Below w.heap.size w W1) := by
    show Below _ _ _
    rw [hW1]
    exact ((Below.refl _ w).alloc (Nat.le_refl _) _)
  rw [← hW1]
  clear hW1
  have q := GRO k W1
  refine q.mono ?_
  clear q
  rintro e W2 ⟨rfl, hb⟩
  replace B := aB B hb
  replace Jr := aJ Jr hb
  clear hb
  have hb := nB W2 (.cells #[.int .i64 z] 34)
  have Jg : Hid (IHolds (W2.alloc (.cells #[.int .i64 z] 34)) W2.heap.size 34 [.int .i64 z]) := IHolds.new _ _ _
  have ne_r_g := nJ Jr
  have ge_g : Hid (w.heap.size ≤ W2.heap.size) := B.out.size
  replace B := aB B hb
  replace Jr := aJ Jr hb
  clear hb
  go_wp2_with fail
  generalize (W2.alloc (.cells #[.int .i64 z] 34)) = W3 at *
  generalize W2.heap.size = b4 at *
  have q := HC.out W3 B.out
  refine q.mono ?_
  clear q
  rintro e W5 ⟨rfl, hb⟩
  replace B := aB B hb
  replace Jr := aJ Jr hb
  replace Jg := aJ Jg hb
  clear hb
  have zg_0 : W5.cell? ⟨b4, 0, none⟩ = some (.int .i64 z) := Jg.out.cell 0 (by simp)
  go_wp2_with fail
  clear zg_0
  have q := HS.out W5 B.out
  refine q.mono ?_
  clear q
  rintro e W6 ⟨rfl, hb⟩
  replace B := aB B hb
  replace Jr := aJ Jr hb
  replace Jg := aJ Jg hb
  clear hb
  obtain ⟨zr_0, zr_1⟩ := cJ Jr
  have f0 := fJ Jr
  have I4 : Hid (IHolds ((W6.setCell ⟨w.heap.size, 0, none⟩ (.string T1)).setCell ⟨w.heap.size, 1, none⟩ (.string T2)) (w.heap.size) 24 [.string T1, .string T2]) := ((Jr.out.set 0 _).set 1 _)
  have B4 : Hid (Below w.heap.size w ((W6.setCell ⟨w.heap.size, 0, none⟩ (.string T1)).setCell ⟨w.heap.size, 1, none⟩ (.string T2))) := ((B.out.setCell (by show w.heap.size ≤ w.heap.size; omega) _).setCell (by show w.heap.size ≤ w.heap.size; omega) _)
  go_wp2_with fail
  clear zr_0 zr_1 f0
  generalize ((W6.setCell ⟨w.heap.size, 0, none⟩ (.string T1)).setCell ⟨w.heap.size, 1, none⟩ (.string T2)) = W7 at *
  have E0 : Hid (W7.cell? ⟨w.heap.size, 0, none⟩ = some (.string T1)) := I4.out.cell 0 (by simp)
  have E1 : Hid (W7.cell? ⟨w.heap.size, 1, none⟩ = some (.string T2)) := I4.out.cell 1 (by simp)
  exact bodyPost_ret (v := .tuple #[.agg #[.string T1, .string T2], .int .i64 0]) (by simp [results, Tryz.results6, go_sem, E0.out, E1.out]) rfl ⟨rfl, B4.out⟩
theorem NumV.offS {w w' : World} {b n : Nat} {v : Value} {t : TypeId} {s u : ByteArray} (h : NumV w 65536 n v) (hI : IHolds w b t [.string s, .string u]) (hb : But b w w') : NumV w' 65536 n v := by
  obtain ⟨a, cap, rfl, hc, hr⟩ := h
  refine ⟨a, cap, rfl, hc, hr.of_but (fun hne k o e => ?_) hb⟩
  rintro rfl
  have h0 : 0 < (dg 65536 n).length := List.length_pos_iff.2 hne
  obtain ⟨k', o', e', hcell⟩ := hr ((dg 65536 n).length - 1) (by omega)
  rw [e] at e'
  simp only [Option.some.injEq, Addr.mk.injEq, and_true] at e'
  obtain ⟨rfl, rfl⟩ := e'
  generalize o + ((dg 65536 n).length - 1) = j at *
  generalize (dg 65536 n)[(dg 65536 n).length - 1] = x at *
  match j, hcell with
  | 0, hcell => rw [hI.cell 0 (by simp)] at hcell; simp at hcell
  | 1, hcell => rw [hI.cell 1 (by simp)] at hcell; simp at hcell
  | j + 2, hcell =>
    have hI' := hI
    unfold IHolds at hI'
    simp [World.cell?, hI'] at hcell
theorem EX_left (h : PK S M M2) {x y : Nat} : EX S M M2 (E M M2 x * y) = EX S M M2 (x * y) := by
  have e := E_left (x := x) (y := y) h.e2
  show TX S (sgn M M2 (E M M2 x * y % M2)) = TX S (E M M2 (x * y))
  rw [e]
set_option maxHeartbeats 4000000 in
theorem ref7 (k : KD z G S Wd M low one sq Ri Wd2 M2 low2 one2 sq2 Ri2) (h : PK S M M2) {w : World} {ca : Option Addr} {cc : Nat} {L : List (ByteArray × ByteArray)} (hl : L.length ≤ 4611686018427387903) (hL : CL w ca L) :
    Calls Tryz.prog 7 #[.int .i64 z, .slice ca L.length cc] w fun e w' => e = .returned (if L.any (fun c => !(isEl S M c.1 && isEl S M c.2)) = true then .tuple #[.agg #[.string ⟨#[]⟩, .string ⟨#[]⟩], .int .i64 7] else .tuple #[.agg #[.string (EX S M M2 (PF (fun c : ByteArray × ByteArray => numS c.1) L)), .string (EX S M M2 (PF (fun c : ByteArray × ByteArray => numS c.2) L))], .int .i64 0]) ∧ Below w.heap.size w w' := by
  have HL : Hid (CL w ca L) := hL
  obtain ⟨R, hR⟩ : ∃ R : Value, R = (if L.any (fun c => !(isEl S M c.1 && isEl S M c.2)) = true then .tuple #[.agg #[.string ⟨#[]⟩, .string ⟨#[]⟩], .int .i64 7] else .tuple #[.agg #[.string (EX S M M2 (PF (fun c : ByteArray × ByteArray => numS c.1) L)), .string (EX S M M2 (PF (fun c : ByteArray × ByteArray => numS c.2) L))], .int .i64 0]) := ⟨_, rfl⟩
  rw [← hR]
  obtain ⟨ff, hff⟩ : ∃ ff : Nat → ByteArray, ff = fun i => EX S M M2 (PF (fun c : ByteArray × ByteArray => numS c.1) (L.take i)) := ⟨_, rfl⟩
  obtain ⟨gg, hgg⟩ : ∃ gg : Nat → ByteArray, gg = fun i => EX S M M2 (PF (fun c : ByteArray × ByteArray => numS c.2) (L.take i)) := ⟨_, rfl⟩
  obtain ⟨f, hf⟩ : ∃ f : ByteArray × ByteArray → Bool, f = (fun c => !(isEl S M c.1 && isEl S M c.2)) := ⟨_, rfl⟩
  have ST : Hid (∀ i (hi : i < L.length) (qa pa : Option Addr) (ql qc pl pc : Nat) V, (L.take i).any f = false → f L[i] = false → NumV V 65536 M (.slice qa ql qc) → NumV V 65536 M2 (.slice pa pl pc) → Calls Tryz.prog 26 #[.agg #[.int .i64 (S : Int), .slice qa ql qc, .slice pa pl pc], .agg #[.string (ff i), .string (gg i)], .agg #[.string L[i].1, .string L[i].2]] V fun e w' => e = .returned (.agg #[.string (ff (i + 1)), .string (gg (i + 1))]) ∧ Below V.heap.size V w') := fun i hi qa pa ql qc pl pc V hx hc n1 n2 => by
    rw [hf] at hx hc
    have hc' : isEl S M L[i].1 = true ∧ isEl S M L[i].2 = true := by simpa using hc
    have m1 : ∀ c ∈ L.take i, ¬ M2 ∣ (fun c : ByteArray × ByteArray => numS c.1) c := fun c hc => el_nd h (both_el hx hc).1
    have m2 : ∀ c ∈ L.take i, ¬ M2 ∣ (fun c : ByteArray × ByteArray => numS c.2) c := fun c hc => el_nd h (both_el hx hc).2
    have k1 := PF_nd h (one_nd h) _ (L.take i) (Nat.le_refl _) m1
    have k2 := PF_nd h (one_nd h) _ (L.take i) (Nat.le_refl _) m2
    rw [List.take_length] at k1 k2
    have e1 := EX_el k h k1
    have e2 := EX_el k h k2
    have q := both26 k h e1.1 e2.1 hc'.1 hc'.2 n1 n2
    rw [e1.2, e2.2, EX_left h, EX_left h] at q
    rw [hff, hgg]
    simp only [PF_take hi]
    exact q
  have RY : Hid (L.any f = true → R = .tuple #[.agg #[.string ⟨#[]⟩, .string ⟨#[]⟩], .int .i64 7]) := fun q => by rw [hR, ← hf, if_pos q]
  have RN : Hid (L.any f = false → R = .tuple #[.agg #[.string (ff L.length), .string (gg L.length)], .int .i64 0]) := fun q => by rw [hR, ← hf, if_neg (by rw [q]; decide), hff, hgg]; simp only [List.take_length]
  have E0' : Hid (EX S M M2 1 = ff 0 ∧ EX S M M2 1 = gg 0) := by rw [hff, hgg]; exact ⟨rfl, rfl⟩
  have FE : Hid (∀ c, f c = (!(isEl S M c.1 && isEl S M c.2))) := fun c => by rw [hf]
  clear hff hgg hR hf hL
  obtain ⟨T0, hT0⟩ : ∃ T0, EX S M M2 1 = T0 := ⟨_, rfl⟩
  rw [hT0] at E0'
  have R1 : Hid (∀ V, Calls Tryz.prog 24 #[.int .i64 1] V fun e w' => (∃ v, e = .returned v ∧ NumV w' 65536 1 v) ∧ Below V.heap.size V w') := fun V => of_any V 1 (by decide)
  have R2 : Hid (∀ V va, NumV V 65536 1 va → Calls Tryz.prog 23 #[va, .int .i64 (S : Int)] V fun e w' => e = .returned (.string T0) ∧ Below V.heap.size V w') := fun V va ha => by
    rw [← hT0]
    have e1 : E M M2 1 = 1 := by
      have := h.e2
      have := h.m1
      unfold E
      rw [Nat.mod_eq_of_lt (by omega)]
      unfold sgn
      rw [if_neg (by omega)]
    exact textE k h (by rw [e1]; exact ha)
  clear hT0
  have hS0 := k.hS0
  go_enter Tryz.func7, Tryz.ntmps7
  go_wp2_with fail
  obtain ⟨W1, hW1⟩ : ∃ X, X = (w.alloc (.cells #[.string ⟨#[]⟩, .string ⟨#[]⟩] 24)) := ⟨_, rfl⟩
  have Jr : Hid (IHolds W1 (w.heap.size) 24 [.string ⟨#[]⟩, .string ⟨#[]⟩]) := by
    have q := IHolds.new w 24 [.string ⟨#[]⟩, .string ⟨#[]⟩]
    show IHolds _ _ _ _
    rw [hW1]
    exact q
  have B : Hid (Below w.heap.size w W1) := by
    show Below _ _ _
    rw [hW1]
    exact ((Below.refl _ w).alloc (Nat.le_refl _) _)
  rw [← hW1]
  clear hW1
  refine (k.K9 _).mono ?_
  rintro e W2 ⟨⟨u1, u2, rfl, n1, n2⟩, hb⟩
  replace B := aB B hb
  replace Jr := aJ Jr hb
  clear hb
  obtain ⟨qa, ql, qc, rfl⟩ := sN (show Hid (NumV W2 65536 M u1) from n1)
  obtain ⟨pa, pl, pc, rfl⟩ := sN (show Hid (NumV W2 65536 M2 u2) from n2)
  have N1 : Hid (NumV W2 65536 M (.slice qa ql qc)) := n1
  have N2 : Hid (NumV W2 65536 M2 (.slice pa pl pc)) := n2
  clear n1 n2
  have hb := nB W2 (.cells #[.int .i64 (S : Int), .slice qa ql qc, .slice pa pl pc] 42)
  have Jg : Hid (IHolds (W2.alloc (.cells #[.int .i64 (S : Int), .slice qa ql qc, .slice pa pl pc] 42)) W2.heap.size 42 [.int .i64 (S : Int), .slice qa ql qc, .slice pa pl pc]) := IHolds.new _ _ _
  have ne_r_g := nJ Jr
  have ge_g : Hid (w.heap.size ≤ W2.heap.size) := B.out.size
  replace B := aB B hb
  replace Jr := aJ Jr hb
  replace N1 := aN N1 hb
  replace N2 := aN N2 hb
  clear hb
  go_wp2_with fail
  generalize (W2.alloc (.cells #[.int .i64 (S : Int), .slice qa ql qc, .slice pa pl pc] 42)) = W3 at *
  generalize W2.heap.size = b4 at *
  obtain ⟨W, rfl⟩ : ∃ W, W = W3 := ⟨_, rfl⟩
  have sB : Hid (∀ V V', Below V.heap.size V V' → Below W.heap.size W V → Below W.heap.size W V') := fun V V' h h' => h'.trans (h.mono h'.size)
  have KP : Hid (∀ V, Below W.heap.size W V → (V.cell? ⟨b4, 0, none⟩ = some (.int .i64 (S : Int)) ∧ V.cell? ⟨b4, 1, none⟩ = some (.slice qa ql qc) ∧ V.cell? ⟨b4, 2, none⟩ = some (.slice pa pl pc))) := fun V hV => ⟨(Jg.out.of_below hV).cell 0 (by simp), (Jg.out.of_below hV).cell 1 (by simp), (Jg.out.of_below hV).cell 2 (by simp)⟩
  go_region_held3 (fun V => V.cell? ⟨b4, 0, none⟩ = some (.int .i64 (S : Int)) ∧ V.cell? ⟨b4, 1, none⟩ = some (.slice qa ql qc) ∧ V.cell? ⟨b4, 2, none⟩ = some (.slice pa pl pc))
    (first | exact KP.out _ (dB _) | assumption | exact KP.out _ D7.out | exact KP.out _ D6.out | fail)
    (first
      | (go_at_call 24; refine (R1.out _).mono ?_; rintro e v6 ⟨⟨r6, rfl, n6⟩, hB6⟩; have D6 : Hid (Below W.heap.size W v6) := sB.out _ _ hB6 (dB _); have M6 : Hid (NumV v6 65536 (1) r6) := n6; clear n6; clear R1)
      | (go_at_call 23; refine (R2.out _ _ M6.out).mono ?_; rintro e v7 ⟨rfl, hB7⟩; have D7 : Hid (Below W.heap.size W v7) := sB.out _ _ hB7 D6.out; clear R2)
      | fail)
  have hb := D7.out
  replace B := aB B hb
  replace Jr := aJ Jr hb
  replace Jg := aJ Jg hb
  replace N1 := aN N1 hb
  replace N2 := aN N2 hb
  clear hb
  clear D6 D7 KP sB M6
  have hb := nB v7 (.cells #[.string T0, .string T0] 24)
  have Ja : Hid (IHolds (v7.alloc (.cells #[.string T0, .string T0] 24)) v7.heap.size 24 [.string T0, .string T0]) := IHolds.new _ _ _
  have ne_r_a := nJ Jr
  have ne_g_a := nJ Jg
  have ge_a : Hid (w.heap.size ≤ v7.heap.size) := B.out.size
  replace B := aB B hb
  replace Jr := aJ Jr hb
  replace Jg := aJ Jg hb
  replace N1 := aN N1 hb
  replace N2 := aN N2 hb
  clear hb
  go_wp2_with fail
  generalize (v7.alloc (.cells #[.string T0, .string T0] 24)) = W5 at *
  generalize v7.heap.size = b6 at *
  go_loopg [10, 26] L.length (fun gk v10 v26 wr => ∃ i : Nat, i + gk = L.length ∧ v26 = .int .i64 (i : Int) ∧ Below w.heap.size w wr ∧ IHolds wr b4 42 [.int .i64 (S : Int), .slice qa ql qc, .slice pa pl pc] ∧ IHolds wr w.heap.size 24 [.string ⟨#[]⟩, .string ⟨#[]⟩] ∧ IHolds wr b6 24 [.string (ff i), .string (gg i)] ∧ (NumV wr 65536 M (.slice qa ql qc) ∧ NumV wr 65536 M2 (.slice pa pl pc)) ∧ (L.take i).any f = false)
  case atStart => exact ⟨0, by omega, rfl, B.out, Jg.out, Jr.out, by rw [← E0'.out.1, ← E0'.out.2]; exact Ja.out, ⟨N1.out, N2.out⟩, rfl⟩
  clear B Jg Jr Ja N1 N2
  case round =>
    obtain ⟨i, hig, rfl, hB, h1, h2, h3, h4, h5⟩ := hrel
    have B : Hid (Below w.heap.size w wr) := hB
    have Jg : Hid (IHolds wr b4 42 [.int .i64 (S : Int), .slice qa ql qc, .slice pa pl pc]) := h1
    have Jr : Hid (IHolds wr w.heap.size 24 [.string ⟨#[]⟩, .string ⟨#[]⟩]) := h2
    have Ja : Hid (IHolds wr b6 24 [.string (ff i), .string (gg i)]) := h3
    have N1 : Hid (NumV wr 65536 M (.slice qa ql qc)) := h4.1
    have N2 : Hid (NumV wr 65536 M2 (.slice pa pl pc)) := h4.2
    have HF : Hid ((L.take i).any f = false) := h5
    clear hB h1 h2 h3 h4 h5
    by_cases hi : i < L.length
    · have il : (i : Int) < (L.length : Int) := by omega
      obtain ⟨b1, o1, rfl, c1, c2⟩ := (HL.out.of_below B.out) i hi
      have STi : Hid (∀ V, f L[i] = false → NumV V 65536 M (.slice qa ql qc) → NumV V 65536 M2 (.slice pa pl pc) → Calls Tryz.prog 26 #[.agg #[.int .i64 (S : Int), .slice qa ql qc, .slice pa pl pc], .agg #[.string (ff i), .string (gg i)], .agg #[.string L[i].1, .string L[i].2]] V fun e w' => e = .returned (.agg #[.string (ff (i + 1)), .string (gg (i + 1))]) ∧ Below V.heap.size V w') := fun V hc n1 n2 => ST.out i hi qa pa ql qc pl pc V HF.out hc n1 n2
      have AT : Hid ((L.take (i + 1)).any f = f L[i]) := any_take hi HF.out
      have HIT : Hid (f L[i] = true → L.any f = true) := any_hit (f := f) hi
      have CE : Hid (∀ V, NumV V 65536 M (.slice qa ql qc) → NumV V 65536 M2 (.slice pa pl pc) → Calls Tryz.prog 25 #[.agg #[.int .i64 (S : Int), .slice qa ql qc, .slice pa pl pc], .agg #[.string L[i].1, .string L[i].2]] V fun e w' => e = .returned (.bool (!f L[i])) ∧ Below V.heap.size V w') := fun V n1 n2 => by
        rw [FE.out, Bool.not_not]
        exact elems25 k n1 n2
      generalize L[i] = c at *
      obtain ⟨x, y⟩ := c
      generalize f (x, y) = t at *
      simp only [] at STi CE
      cases t with
      | true =>
        have hb := nB wr (.cells #[.string x, .string y] 24)
        have Jc : Hid (IHolds (wr.alloc (.cells #[.string x, .string y] 24)) wr.heap.size 24 [.string x, .string y]) := IHolds.new _ _ _
        replace B := aB B hb
        replace Jg := aJ Jg hb
        replace Jr := aJ Jr hb
        replace Ja := aJ Ja hb
        replace N1 := aN N1 hb
        replace N2 := aN N2 hb
        clear hb
        have zg_0 : (wr.alloc (.cells #[.string x, .string y] 24)).cell? ⟨b4, 0, none⟩ = some (.int .i64 (S : Int)) := Jg.out.cell 0 (by simp)
        have zg_1 : (wr.alloc (.cells #[.string x, .string y] 24)).cell? ⟨b4, 1, none⟩ = some (.slice qa ql qc) := Jg.out.cell 1 (by simp)
        have zg_2 : (wr.alloc (.cells #[.string x, .string y] 24)).cell? ⟨b4, 2, none⟩ = some (.slice pa pl pc) := Jg.out.cell 2 (by simp)
        go_wp2_with fail
        clear zg_0 zg_1 zg_2 c1 c2
        generalize (wr.alloc (.cells #[.string x, .string y] 24)) = W1 at *
        generalize wr.heap.size = bc at *
        have q := CE.out _ N1.out N2.out
        refine q.mono ?_
        clear q
        rintro e W51 ⟨rfl, hb⟩
        replace B := aB B hb
        replace Jg := aJ Jg hb
        replace Jr := aJ Jr hb
        replace Ja := aJ Ja hb
        replace Jc := aJ Jc hb
        replace N1 := aN N1 hb
        replace N2 := aN N2 hb
        clear hb
        have hy : R = .tuple #[.agg #[.string ⟨#[]⟩, .string ⟨#[]⟩], .int .i64 7] := RY.out (by first | exact HIT.out rfl | exact HIT.out trivial | exact HIT.out)
        replace hy : Hid _ := hy
        obtain ⟨zr_0, zr_1⟩ := cJ Jr
        have f0 := fJ Jr
        have I4 : Hid (IHolds ((W51.setCell ⟨w.heap.size, 0, none⟩ (.string ⟨#[]⟩)).setCell ⟨w.heap.size, 1, none⟩ (.string ⟨#[]⟩)) (w.heap.size) 24 [.string ⟨#[]⟩, .string ⟨#[]⟩]) := ((Jr.out.set 0 _).set 1 _)
        have B4 : Hid (Below w.heap.size w ((W51.setCell ⟨w.heap.size, 0, none⟩ (.string ⟨#[]⟩)).setCell ⟨w.heap.size, 1, none⟩ (.string ⟨#[]⟩))) := ((B.out.setCell (by show w.heap.size ≤ w.heap.size; omega) _).setCell (by show w.heap.size ≤ w.heap.size; omega) _)
        go_wp2_with fail
        clear zr_0 zr_1 f0
        generalize ((W51.setCell ⟨w.heap.size, 0, none⟩ (.string ⟨#[]⟩)).setCell ⟨w.heap.size, 1, none⟩ (.string ⟨#[]⟩)) = W52 at *
        have E0 : Hid (W52.cell? ⟨w.heap.size, 0, none⟩ = some (.string ⟨#[]⟩)) := I4.out.cell 0 (by simp)
        have E1 : Hid (W52.cell? ⟨w.heap.size, 1, none⟩ = some (.string ⟨#[]⟩)) := I4.out.cell 1 (by simp)
        exact bodyPost_ret (v := .tuple #[.agg #[.string ⟨#[]⟩, .string ⟨#[]⟩], .int .i64 7]) (by simp [results, Tryz.results7, go_sem, E0.out, E1.out]) rfl ⟨by rw [hy.out], B4.out⟩
      | false =>
        have hb := nB wr (.cells #[.string x, .string y] 24)
        have Jc : Hid (IHolds (wr.alloc (.cells #[.string x, .string y] 24)) wr.heap.size 24 [.string x, .string y]) := IHolds.new _ _ _
        replace B := aB B hb
        replace Jg := aJ Jg hb
        replace Jr := aJ Jr hb
        replace Ja := aJ Ja hb
        replace N1 := aN N1 hb
        replace N2 := aN N2 hb
        clear hb
        have zg_0 : (wr.alloc (.cells #[.string x, .string y] 24)).cell? ⟨b4, 0, none⟩ = some (.int .i64 (S : Int)) := Jg.out.cell 0 (by simp)
        have zg_1 : (wr.alloc (.cells #[.string x, .string y] 24)).cell? ⟨b4, 1, none⟩ = some (.slice qa ql qc) := Jg.out.cell 1 (by simp)
        have zg_2 : (wr.alloc (.cells #[.string x, .string y] 24)).cell? ⟨b4, 2, none⟩ = some (.slice pa pl pc) := Jg.out.cell 2 (by simp)
        go_wp2_with fail
        clear zg_0 zg_1 zg_2 c1 c2
        generalize (wr.alloc (.cells #[.string x, .string y] 24)) = W1 at *
        generalize wr.heap.size = bc at *
        have q := CE.out _ N1.out N2.out
        refine q.mono ?_
        clear q
        rintro e W51 ⟨rfl, hb⟩
        replace B := aB B hb
        replace Jg := aJ Jg hb
        replace Jr := aJ Jr hb
        replace Ja := aJ Ja hb
        replace Jc := aJ Jc hb
        replace N1 := aN N1 hb
        replace N2 := aN N2 hb
        clear hb
        have zg_0 : W51.cell? ⟨b4, 0, none⟩ = some (.int .i64 (S : Int)) := Jg.out.cell 0 (by simp)
        have zg_1 : W51.cell? ⟨b4, 1, none⟩ = some (.slice qa ql qc) := Jg.out.cell 1 (by simp)
        have zg_2 : W51.cell? ⟨b4, 2, none⟩ = some (.slice pa pl pc) := Jg.out.cell 2 (by simp)
        have za_0 : W51.cell? ⟨b6, 0, none⟩ = some (.string (ff i)) := Ja.out.cell 0 (by simp)
        have za_1 : W51.cell? ⟨b6, 1, none⟩ = some (.string (gg i)) := Ja.out.cell 1 (by simp)
        have zc_0 : W51.cell? ⟨bc, 0, none⟩ = some (.string x) := Jc.out.cell 0 (by simp)
        have zc_1 : W51.cell? ⟨bc, 1, none⟩ = some (.string y) := Jc.out.cell 1 (by simp)
        go_wp2_with fail
        clear zg_0 zg_1 zg_2 za_0 za_1 zc_0 zc_1
        have q := STi.out _ (by first | rfl | trivial) N1.out N2.out
        refine q.mono ?_
        clear q
        rintro e W52 ⟨rfl, hb⟩
        replace B := aB B hb
        replace Jg := aJ Jg hb
        replace Jr := aJ Jr hb
        replace Ja := aJ Ja hb
        replace Jc := aJ Jc hb
        replace N1 := aN N1 hb
        replace N2 := aN N2 hb
        clear hb
        obtain ⟨za_0, za_1⟩ := cJ Ja
        have f0 := fJ Ja
        have hBut : But (b6) W52 ((W52.setCell ⟨b6, 0, none⟩ (.string (ff (i + 1)))).setCell ⟨b6, 1, none⟩ (.string (gg (i + 1)))) := (((But.refl _ W52).setCell 0 _).setCell 1 _)
        have Jg2 := tJ Jg hBut (by first | exact fun h => ne_g_a.out h | exact fun h => ne_g_a.out h.symm)
        have Jr2 := tJ Jr hBut (by first | exact fun h => ne_r_a.out h | exact fun h => ne_r_a.out h.symm)
        have Ja2 : Hid (IHolds ((W52.setCell ⟨b6, 0, none⟩ (.string (ff (i + 1)))).setCell ⟨b6, 1, none⟩ (.string (gg (i + 1)))) (b6) 24 [.string (ff (i + 1)), .string (gg (i + 1))]) := ((Ja.out.set 0 _).set 1 _)
        have B4 : Hid (Below w.heap.size w ((W52.setCell ⟨b6, 0, none⟩ (.string (ff (i + 1)))).setCell ⟨b6, 1, none⟩ (.string (gg (i + 1))))) := ((B.out.setCell ge_a.out _).setCell ge_a.out _)
        have N12 : Hid (NumV ((W52.setCell ⟨b6, 0, none⟩ (.string (ff (i + 1)))).setCell ⟨b6, 1, none⟩ (.string (gg (i + 1)))) 65536 M (.slice qa ql qc)) := N1.out.offS Ja.out hBut
        have N22 : Hid (NumV ((W52.setCell ⟨b6, 0, none⟩ (.string (ff (i + 1)))).setCell ⟨b6, 1, none⟩ (.string (gg (i + 1)))) 65536 M2 (.slice pa pl pc)) := N2.out.offS Ja.out hBut
        go_wp2_with fail
        go_roundg (gk - 1)
        case measure => omega
        case rel => exact ⟨i + 1, by omega, by go_num, B4.out, Jg2.out, Jr2.out, Ja2.out, ⟨N12.out, N22.out⟩, AT.out⟩
    have il : ¬ (i : Int) < (L.length : Int) := by omega
    obtain rfl : i = L.length := by omega
    rw [List.take_length] at HF
    have hy : R = .tuple #[.agg #[.string (ff L.length), .string (gg L.length)], .int .i64 0] := RN.out HF.out
    replace hy : Hid _ := hy
    have za_0 : wr.cell? ⟨b6, 0, none⟩ = some (.string (ff L.length)) := Ja.out.cell 0 (by simp)
    have za_1 : wr.cell? ⟨b6, 1, none⟩ = some (.string (gg L.length)) := Ja.out.cell 1 (by simp)
    obtain ⟨zr_0, zr_1⟩ := cJ Jr
    have f0 := fJ Jr
    have I4 : Hid (IHolds ((wr.setCell ⟨w.heap.size, 0, none⟩ (.string (ff L.length))).setCell ⟨w.heap.size, 1, none⟩ (.string (gg L.length))) (w.heap.size) 24 [.string (ff L.length), .string (gg L.length)]) := ((Jr.out.set 0 _).set 1 _)
    have B4 : Hid (Below w.heap.size w ((wr.setCell ⟨w.heap.size, 0, none⟩ (.string (ff L.length))).setCell ⟨w.heap.size, 1, none⟩ (.string (gg L.length)))) := ((B.out.setCell (by show w.heap.size ≤ w.heap.size; omega) _).setCell (by show w.heap.size ≤ w.heap.size; omega) _)
    go_wp2_with fail
    clear zr_0 zr_1 f0
    generalize ((wr.setCell ⟨w.heap.size, 0, none⟩ (.string (ff L.length))).setCell ⟨w.heap.size, 1, none⟩ (.string (gg L.length))) = W81 at *
    have E0 : Hid (W81.cell? ⟨w.heap.size, 0, none⟩ = some (.string (ff L.length))) := I4.out.cell 0 (by simp)
    have E1 : Hid (W81.cell? ⟨w.heap.size, 1, none⟩ = some (.string (gg L.length))) := I4.out.cell 1 (by simp)
    exact bodyPost_ret (v := .tuple #[.agg #[.string (ff L.length), .string (gg L.length)], .int .i64 0]) (by simp [results, Tryz.results7, go_sem, E0.out, E1.out]) rfl ⟨by rw [hy.out], B4.out⟩
end
end Go.Proofs.YtohpbclofcflaaaGreat
namespace Go.Proofs.YtohpbclofcflaaaGreat
open Go.RowKit Go.Deep Go.PlainAid

section
variable {z : Int} {G : Array Value} {S Wd M low one sq Ri Wd2 M2 low2 one2 sq2 Ri2 : Nat}
theorem same4K (k : KD z G S Wd M low one sq Ri Wd2 M2 low2 one2 sq2 Ri2) (h : PK S M M2) (key x n : ByteArray) : ∃ (p q : ByteArray) (c : Int), (∀ V, Calls Tryz.prog 4 #[.int .i64 z, .string key, .string x, .string n] V fun e w' => e = .returned (.tuple #[.agg #[.string p, .string q], .int .i64 c]) ∧ Below V.heap.size V w') ∧ (∀ V, Calls Tryz.prog 5 #[.int .i64 z, .string key, .string x, .string n] V fun e w' => e = .returned (.tuple #[.agg #[.string p, .string q], .int .i64 c]) ∧ Below V.heap.size V w') := by
  cases hk : isEl S M key with
  | false => exact ⟨_, _, _, fun V => enc_elem (fun V => GRO k V) (fun V => nEl k hk V), fun V => ref5_A k hk⟩
  | true =>
    cases hx : isSc S M x with
    | false => exact ⟨_, _, _, fun V => enc_sc1 (fun V => GRO k V) (fun V => nEl k hk V) (fun V => nSc k hx V), fun V => ref5_B k hk hx⟩
    | true =>
      cases hn : isSc S M n with
      | false => exact ⟨_, _, _, fun V => enc_sc2 (fun V => GRO k V) (fun V => nEl k hk V) (fun V => nSc k hx V) (fun V => nSc k hn V), fun V => ref5_C k hk hx hn⟩
      | true =>
        refine ⟨_, _, _, fun V => ?_, fun V => ref5_ok k h hk hx hn⟩
        have q := ENC k h (el_nd h hk) (isSc_lt hx) (isSc_lt hn) V
        rw [el_EX h hk, TX_numS (isSc_size hx), TX_numS (isSc_size hn)] at q
        exact q
theorem EX_right (h : PK S M M2) {x y : Nat} : EX S M M2 (x * E M M2 y) = EX S M M2 (x * y) := by
  rw [Nat.mul_comm, EX_left h, Nat.mul_comm]
theorem nel2 {a b : ByteArray} (h : (isEl S M a && isEl S M b) = true) : isEl S M a = true ∧ isEl S M b = true := Bool.and_eq_true_iff.1 h
theorem same8K (k : KD z G S Wd M low one sq Ri Wd2 M2 low2 one2 sq2 Ri2) (h : PK S M M2) (key a b n : ByteArray) : ∃ (p q : ByteArray) (c : Int), (∀ V, Calls Tryz.prog 8 #[.int .i64 z, .string key, .agg #[.string a, .string b], .string n] V fun e w' => e = .returned (.tuple #[.agg #[.string p, .string q], .int .i64 c]) ∧ Below V.heap.size V w') ∧ (∀ V, Calls Tryz.prog 9 #[.int .i64 z, .string key, .agg #[.string a, .string b], .string n] V fun e w' => e = .returned (.tuple #[.agg #[.string p, .string q], .int .i64 c]) ∧ Below V.heap.size V w') := by
  cases hk : isEl S M key with
  | false => exact ⟨_, _, _, fun V => prog8_A k hk, fun V => ref9_A k hk⟩
  | true =>
    cases hx : (isEl S M a && isEl S M b) with
    | false => exact ⟨_, _, _, fun V => prog8_B k hk hx, fun V => ref9_B k hk hx⟩
    | true =>
      cases hn : isSc S M n with
      | false => exact ⟨_, _, _, fun V => prog8_C k hk hx hn, fun V => ref9_C k hk hx hn⟩
      | true =>
        refine ⟨_, _, _, fun V => ?_, fun V => ref9_ok k h hk hx hn⟩
        have q := REN k h (el_nd h hk) (el_nd h (nel2 hx).1) (el_nd h (nel2 hx).2) (isSc_lt hn) V
        rw [el_EX h hk, el_EX h (nel2 hx).1, el_EX h (nel2 hx).2, TX_numS (isSc_size hn), Nat.pow_zero, Nat.one_mul] at q
        rw [EX_right h, EX_right h]
        exact q
theorem same10K (k : KD z G S Wd M low one sq Ri Wd2 M2 low2 one2 sq2 Ri2) (h : PK S M M2) (s a b : ByteArray) : ∃ (p : ByteArray) (c : Int), (∀ V, Calls Tryz.prog 10 #[.int .i64 z, .string s, .agg #[.string a, .string b]] V fun e w' => e = .returned (.tuple #[.string p, .int .i64 c]) ∧ Below V.heap.size V w') ∧ (∀ V, Calls Tryz.prog 11 #[.int .i64 z, .string s, .agg #[.string a, .string b]] V fun e w' => e = .returned (.tuple #[.string p, .int .i64 c]) ∧ Below V.heap.size V w') := by
  cases hk : isSc S M s with
  | false => exact ⟨_, _, fun V => prog10_A k hk, fun V => ref11_A k hk⟩
  | true =>
    cases hx : (isEl S M a && isEl S M b) with
    | false => exact ⟨_, _, fun V => prog10_B k hk hx, fun V => ref11_B k hk hx⟩
    | true =>
      refine ⟨_, _, fun V => ?_, fun V => ref11_ok k h hk hx⟩
      have q := SHO k h (isSc_lt hk) (el_nd h (nel2 hx).1) (el_nd h (nel2 hx).2) V
      rw [TX_numS (isSc_size hk), el_EX h (nel2 hx).1, el_EX h (nel2 hx).2] at q
      exact q
theorem same6K (k : KD z G S Wd M low one sq Ri Wd2 M2 low2 one2 sq2 Ri2) (h : PK S M M2) {w : World} {ca : Option Addr} {cc : Nat} {L : List (ByteArray × ByteArray)} (hl : L.length ≤ 4611686018427387903) (hL : CL w ca L) : ∃ (p q : ByteArray) (c : Int), (∀ V, Below w.heap.size w V → Calls Tryz.prog 6 #[.int .i64 z, .slice ca L.length cc] V fun e w' => e = .returned (.tuple #[.agg #[.string p, .string q], .int .i64 c]) ∧ Below V.heap.size V w') ∧ (∀ V, Below w.heap.size w V → Calls Tryz.prog 7 #[.int .i64 z, .slice ca L.length cc] V fun e w' => e = .returned (.tuple #[.agg #[.string p, .string q], .int .i64 c]) ∧ Below V.heap.size V w') := by
  cases hx : L.any (fun c => !(isEl S M c.1 && isEl S M c.2)) with
  | true =>
    refine ⟨_, _, _, fun V hV => prog6_A k hl (hL.of_below hV) hx, fun V hV => ?_⟩
    have q := ref7 (cc := cc) k h hl (hL.of_below hV)
    rw [if_pos hx] at q
    exact q
  | false =>
    refine ⟨_, _, _, fun V hV => prog6_ok k h hl (hL.of_below hV) hx, fun V hV => ?_⟩
    have q := ref7 (cc := cc) k h hl (hL.of_below hV)
    rw [if_neg (by rw [hx]; decide)] at q
    exact q
end
theorem same4 (z : Int) (key x n : ByteArray) : ∃ (p q : ByteArray) (c : Int), (∀ V, Calls Tryz.prog 4 #[.int .i64 z, .string key, .string x, .string n] V fun e w' => e = .returned (.tuple #[.agg #[.string p, .string q], .int .i64 c]) ∧ Below V.heap.size V w') ∧ (∀ V, Calls Tryz.prog 5 #[.int .i64 z, .string key, .string x, .string n] V fun e w' => e = .returned (.tuple #[.agg #[.string p, .string q], .int .i64 c]) ∧ Below V.heap.size V w') := by
  by_cases z1 : z = 1
  · subst z1; exact same4K kd1 pk1 key x n
  by_cases z2 : z = 2
  · subst z2; exact same4K kd2 pk2 key x n
  by_cases z3 : z = 3
  · subst z3; exact same4K kd3 pk3 key x n
  exact ⟨_, _, _, fun V => enc_no z1 z2 z3, fun V => ref5_none z1 z2 z3⟩
theorem same8 (z : Int) (key a b n : ByteArray) : ∃ (p q : ByteArray) (c : Int), (∀ V, Calls Tryz.prog 8 #[.int .i64 z, .string key, .agg #[.string a, .string b], .string n] V fun e w' => e = .returned (.tuple #[.agg #[.string p, .string q], .int .i64 c]) ∧ Below V.heap.size V w') ∧ (∀ V, Calls Tryz.prog 9 #[.int .i64 z, .string key, .agg #[.string a, .string b], .string n] V fun e w' => e = .returned (.tuple #[.agg #[.string p, .string q], .int .i64 c]) ∧ Below V.heap.size V w') := by
  by_cases z1 : z = 1
  · subst z1; exact same8K kd1 pk1 key a b n
  by_cases z2 : z = 2
  · subst z2; exact same8K kd2 pk2 key a b n
  by_cases z3 : z = 3
  · subst z3; exact same8K kd3 pk3 key a b n
  exact ⟨_, _, _, fun V => prog8_none z1 z2 z3, fun V => ref9_none z1 z2 z3⟩
theorem same10 (z : Int) (s a b : ByteArray) : ∃ (p : ByteArray) (c : Int), (∀ V, Calls Tryz.prog 10 #[.int .i64 z, .string s, .agg #[.string a, .string b]] V fun e w' => e = .returned (.tuple #[.string p, .int .i64 c]) ∧ Below V.heap.size V w') ∧ (∀ V, Calls Tryz.prog 11 #[.int .i64 z, .string s, .agg #[.string a, .string b]] V fun e w' => e = .returned (.tuple #[.string p, .int .i64 c]) ∧ Below V.heap.size V w') := by
  by_cases z1 : z = 1
  · subst z1; exact same10K kd1 pk1 s a b
  by_cases z2 : z = 2
  · subst z2; exact same10K kd2 pk2 s a b
  by_cases z3 : z = 3
  · subst z3; exact same10K kd3 pk3 s a b
  exact ⟨_, _, fun V => prog10_none z1 z2 z3, fun V => ref11_none z1 z2 z3⟩
theorem same6 (z : Int) {w : World} {ca : Option Addr} {cc : Nat} {L : List (ByteArray × ByteArray)} (hl : L.length ≤ 4611686018427387903) (hL : CL w ca L) : ∃ (p q : ByteArray) (c : Int), (∀ V, Below w.heap.size w V → Calls Tryz.prog 6 #[.int .i64 z, .slice ca L.length cc] V fun e w' => e = .returned (.tuple #[.agg #[.string p, .string q], .int .i64 c]) ∧ Below V.heap.size V w') ∧ (∀ V, Below w.heap.size w V → Calls Tryz.prog 7 #[.int .i64 z, .slice ca L.length cc] V fun e w' => e = .returned (.tuple #[.agg #[.string p, .string q], .int .i64 c]) ∧ Below V.heap.size V w') := by
  by_cases z1 : z = 1
  · subst z1; exact same6K kd1 pk1 hl hL
  by_cases z2 : z = 2
  · subst z2; exact same6K kd2 pk2 hl hL
  by_cases z3 : z = 3
  · subst z3; exact same6K kd3 pk3 hl hL
  exact ⟨_, _, _, fun V _ => prog6_none z1 z2 z3, fun V _ => ref7_none z1 z2 z3⟩
set_option maxHeartbeats 4000000 in
theorem hides_walk (z : Int) (key x n s a b : ByteArray) {w : World} {ca : Option Addr} {cc : Nat} {L : List (ByteArray × ByteArray)} (hl : L.length ≤ 4611686018427387903) (hL : CL w ca L) :
    Calls Tryz.prog 3 #[.int .i64 z, .string key, .string x, .string n, .slice ca L.length cc, .agg #[.string a, .string b], .string s] w fun e w' => e = .returned (.bool true) ∧ Below w.heap.size w w' := by
  obtain ⟨p4, q4, c4, g4, g5⟩ := same4 z key x n
  obtain ⟨p6, q6, c6, g6, g7⟩ := same6 (cc := cc) z hl hL
  obtain ⟨p8, q8, c8, g8, g9⟩ := same8 z key a b n
  obtain ⟨p0, c0, g10, g11⟩ := same10 z s a b
  replace g4 : Hid (∀ V, Calls Tryz.prog 4 #[.int .i64 z, .string key, .string x, .string n] V fun e w' => e = .returned (.tuple #[.agg #[.string p4, .string q4], .int .i64 c4]) ∧ Below V.heap.size V w') := g4
  replace g5 : Hid (∀ V, Calls Tryz.prog 5 #[.int .i64 z, .string key, .string x, .string n] V fun e w' => e = .returned (.tuple #[.agg #[.string p4, .string q4], .int .i64 c4]) ∧ Below V.heap.size V w') := g5
  replace g6 : Hid (∀ V, Below w.heap.size w V → Calls Tryz.prog 6 #[.int .i64 z, .slice ca L.length cc] V fun e w' => e = .returned (.tuple #[.agg #[.string p6, .string q6], .int .i64 c6]) ∧ Below V.heap.size V w') := g6
  replace g7 : Hid (∀ V, Below w.heap.size w V → Calls Tryz.prog 7 #[.int .i64 z, .slice ca L.length cc] V fun e w' => e = .returned (.tuple #[.agg #[.string p6, .string q6], .int .i64 c6]) ∧ Below V.heap.size V w') := g7
  replace g8 : Hid (∀ V, Calls Tryz.prog 8 #[.int .i64 z, .string key, .agg #[.string a, .string b], .string n] V fun e w' => e = .returned (.tuple #[.agg #[.string p8, .string q8], .int .i64 c8]) ∧ Below V.heap.size V w') := g8
  replace g9 : Hid (∀ V, Calls Tryz.prog 9 #[.int .i64 z, .string key, .agg #[.string a, .string b], .string n] V fun e w' => e = .returned (.tuple #[.agg #[.string p8, .string q8], .int .i64 c8]) ∧ Below V.heap.size V w') := g9
  replace g10 : Hid (∀ V, Calls Tryz.prog 10 #[.int .i64 z, .string s, .agg #[.string a, .string b]] V fun e w' => e = .returned (.tuple #[.string p0, .int .i64 c0]) ∧ Below V.heap.size V w') := g10
  replace g11 : Hid (∀ V, Calls Tryz.prog 11 #[.int .i64 z, .string s, .agg #[.string a, .string b]] V fun e w' => e = .returned (.tuple #[.string p0, .int .i64 c0]) ∧ Below V.heap.size V w') := g11
  clear hL
  go_enter Tryz.func3, Tryz.ntmps3
  go_wp2_with fail
  obtain ⟨W1, hW1⟩ : ∃ X, X = (w.alloc (.cells #[.string a, .string b] 24)) := ⟨_, rfl⟩
  have Jc : Hid (IHolds W1 (w.heap.size) 24 [.string a, .string b]) := by
    have q := IHolds.new w 24 [.string a, .string b]
    show IHolds _ _ _ _
    rw [hW1]
    exact q
  have B : Hid (Below w.heap.size w W1) := by
    show Below _ _ _
    rw [hW1]
    exact ((Below.refl _ w).alloc (Nat.le_refl _) _)
  rw [← hW1]
  clear hW1
  refine (g4.out _).mono ?_
  rintro e W2 ⟨rfl, hb⟩
  replace B := aB B hb
  replace Jc := aJ Jc hb
  clear hb
  have hb := nB W2 (.cells #[.string p4, .string q4] 24)
  have Ju : Hid (IHolds (W2.alloc (.cells #[.string p4, .string q4] 24)) W2.heap.size 24 [.string p4, .string q4]) := IHolds.new _ _ _
  have ne_c_u := nJ Jc
  have ge_u : Hid (w.heap.size ≤ W2.heap.size) := B.out.size
  replace B := aB B hb
  replace Jc := aJ Jc hb
  clear hb
  go_wp2_with fail
  generalize (W2.alloc (.cells #[.string p4, .string q4] 24)) = W3 at *
  generalize W2.heap.size = b4 at *
  refine (g5.out _).mono ?_
  rintro e W5 ⟨rfl, hb⟩
  replace B := aB B hb
  replace Jc := aJ Jc hb
  replace Ju := aJ Ju hb
  clear hb
  have hb := nB W5 (.cells #[.string p4, .string q4] 24)
  have Jv : Hid (IHolds (W5.alloc (.cells #[.string p4, .string q4] 24)) W5.heap.size 24 [.string p4, .string q4]) := IHolds.new _ _ _
  have ne_c_v := nJ Jc
  have ne_u_v := nJ Ju
  have ge_v : Hid (w.heap.size ≤ W5.heap.size) := B.out.size
  replace B := aB B hb
  replace Jc := aJ Jc hb
  replace Ju := aJ Ju hb
  clear hb
  have zu_0 : (W5.alloc (.cells #[.string p4, .string q4] 24)).cell? ⟨b4, 0, none⟩ = some (.string p4) := Ju.out.cell 0 (by simp)
  have zu_1 : (W5.alloc (.cells #[.string p4, .string q4] 24)).cell? ⟨b4, 1, none⟩ = some (.string q4) := Ju.out.cell 1 (by simp)
  go_wp2_with fail
  clear zu_0 zu_1
  generalize (W5.alloc (.cells #[.string p4, .string q4] 24)) = W6 at *
  generalize W5.heap.size = b7 at *
  refine (g6.out _ B.out).mono ?_
  rintro e W8 ⟨rfl, hb⟩
  replace B := aB B hb
  replace Jc := aJ Jc hb
  replace Ju := aJ Ju hb
  replace Jv := aJ Jv hb
  clear hb
  obtain ⟨y0, y1⟩ := cJ Ju
  have f0 := fJ Ju
  have hBut : But (b4) W8 ((W8.setCell ⟨b4, 0, none⟩ (.string p6)).setCell ⟨b4, 1, none⟩ (.string q6)) := (((But.refl _ W8).setCell 0 _).setCell 1 _)
  replace Jc := tJ Jc hBut (by first | exact fun h => ne_c_u.out h | exact fun h => ne_u_c.out h.symm)
  replace Jv := tJ Jv hBut (by first | exact fun h => ne_v_u.out h | exact fun h => ne_u_v.out h.symm)
  replace Ju : Hid (IHolds ((W8.setCell ⟨b4, 0, none⟩ (.string p6)).setCell ⟨b4, 1, none⟩ (.string q6)) (b4) 24 [.string p6, .string q6]) := ((Ju.out.set 0 _).set 1 _)
  replace B : Hid (Below w.heap.size w ((W8.setCell ⟨b4, 0, none⟩ (.string p6)).setCell ⟨b4, 1, none⟩ (.string q6))) := ((B.out.setCell ge_u.out _).setCell ge_u.out _)
  clear hBut
  go_wp2_with fail
  clear y0 y1 f0
  generalize ((W8.setCell ⟨b4, 0, none⟩ (.string p6)).setCell ⟨b4, 1, none⟩ (.string q6)) = W9 at *
  refine (g7.out _ B.out).mono ?_
  rintro e W10 ⟨rfl, hb⟩
  replace B := aB B hb
  replace Jc := aJ Jc hb
  replace Ju := aJ Ju hb
  replace Jv := aJ Jv hb
  clear hb
  obtain ⟨y0, y1⟩ := cJ Jv
  have f0 := fJ Jv
  have hBut : But (b7) W10 ((W10.setCell ⟨b7, 0, none⟩ (.string p6)).setCell ⟨b7, 1, none⟩ (.string q6)) := (((But.refl _ W10).setCell 0 _).setCell 1 _)
  replace Jc := tJ Jc hBut (by first | exact fun h => ne_c_v.out h | exact fun h => ne_v_c.out h.symm)
  replace Ju := tJ Ju hBut (by first | exact fun h => ne_u_v.out h | exact fun h => ne_v_u.out h.symm)
  replace Jv : Hid (IHolds ((W10.setCell ⟨b7, 0, none⟩ (.string p6)).setCell ⟨b7, 1, none⟩ (.string q6)) (b7) 24 [.string p6, .string q6]) := ((Jv.out.set 0 _).set 1 _)
  replace B : Hid (Below w.heap.size w ((W10.setCell ⟨b7, 0, none⟩ (.string p6)).setCell ⟨b7, 1, none⟩ (.string q6))) := ((B.out.setCell ge_v.out _).setCell ge_v.out _)
  clear hBut
  have zu_0 : ((W10.setCell ⟨b7, 0, none⟩ (.string p6)).setCell ⟨b7, 1, none⟩ (.string q6)).cell? ⟨b4, 0, none⟩ = some (.string p6) := Ju.out.cell 0 (by simp)
  have zu_1 : ((W10.setCell ⟨b7, 0, none⟩ (.string p6)).setCell ⟨b7, 1, none⟩ (.string q6)).cell? ⟨b4, 1, none⟩ = some (.string q6) := Ju.out.cell 1 (by simp)
  have zc_0 : ((W10.setCell ⟨b7, 0, none⟩ (.string p6)).setCell ⟨b7, 1, none⟩ (.string q6)).cell? ⟨w.heap.size, 0, none⟩ = some (.string a) := Jc.out.cell 0 (by simp)
  have zc_1 : ((W10.setCell ⟨b7, 0, none⟩ (.string p6)).setCell ⟨b7, 1, none⟩ (.string q6)).cell? ⟨w.heap.size, 1, none⟩ = some (.string b) := Jc.out.cell 1 (by simp)
  go_wp2_with fail
  clear zu_0 zu_1 zc_0 zc_1
  clear y0 y1 f0
  generalize ((W10.setCell ⟨b7, 0, none⟩ (.string p6)).setCell ⟨b7, 1, none⟩ (.string q6)) = W11 at *
  refine (g8.out _).mono ?_
  rintro e W12 ⟨rfl, hb⟩
  replace B := aB B hb
  replace Jc := aJ Jc hb
  replace Ju := aJ Ju hb
  replace Jv := aJ Jv hb
  clear hb
  obtain ⟨y0, y1⟩ := cJ Ju
  have f0 := fJ Ju
  have hBut : But (b4) W12 ((W12.setCell ⟨b4, 0, none⟩ (.string p8)).setCell ⟨b4, 1, none⟩ (.string q8)) := (((But.refl _ W12).setCell 0 _).setCell 1 _)
  replace Jc := tJ Jc hBut (by first | exact fun h => ne_c_u.out h | exact fun h => ne_u_c.out h.symm)
  replace Jv := tJ Jv hBut (by first | exact fun h => ne_v_u.out h | exact fun h => ne_u_v.out h.symm)
  replace Ju : Hid (IHolds ((W12.setCell ⟨b4, 0, none⟩ (.string p8)).setCell ⟨b4, 1, none⟩ (.string q8)) (b4) 24 [.string p8, .string q8]) := ((Ju.out.set 0 _).set 1 _)
  replace B : Hid (Below w.heap.size w ((W12.setCell ⟨b4, 0, none⟩ (.string p8)).setCell ⟨b4, 1, none⟩ (.string q8))) := ((B.out.setCell ge_u.out _).setCell ge_u.out _)
  clear hBut
  have zc_0 : ((W12.setCell ⟨b4, 0, none⟩ (.string p8)).setCell ⟨b4, 1, none⟩ (.string q8)).cell? ⟨w.heap.size, 0, none⟩ = some (.string a) := Jc.out.cell 0 (by simp)
  have zc_1 : ((W12.setCell ⟨b4, 0, none⟩ (.string p8)).setCell ⟨b4, 1, none⟩ (.string q8)).cell? ⟨w.heap.size, 1, none⟩ = some (.string b) := Jc.out.cell 1 (by simp)
  go_wp2_with fail
  clear zc_0 zc_1
  clear y0 y1 f0
  generalize ((W12.setCell ⟨b4, 0, none⟩ (.string p8)).setCell ⟨b4, 1, none⟩ (.string q8)) = W13 at *
  refine (g9.out _).mono ?_
  rintro e W14 ⟨rfl, hb⟩
  replace B := aB B hb
  replace Jc := aJ Jc hb
  replace Ju := aJ Ju hb
  replace Jv := aJ Jv hb
  clear hb
  obtain ⟨y0, y1⟩ := cJ Jv
  have f0 := fJ Jv
  have hBut : But (b7) W14 ((W14.setCell ⟨b7, 0, none⟩ (.string p8)).setCell ⟨b7, 1, none⟩ (.string q8)) := (((But.refl _ W14).setCell 0 _).setCell 1 _)
  replace Jc := tJ Jc hBut (by first | exact fun h => ne_c_v.out h | exact fun h => ne_v_c.out h.symm)
  replace Ju := tJ Ju hBut (by first | exact fun h => ne_u_v.out h | exact fun h => ne_v_u.out h.symm)
  replace Jv : Hid (IHolds ((W14.setCell ⟨b7, 0, none⟩ (.string p8)).setCell ⟨b7, 1, none⟩ (.string q8)) (b7) 24 [.string p8, .string q8]) := ((Jv.out.set 0 _).set 1 _)
  replace B : Hid (Below w.heap.size w ((W14.setCell ⟨b7, 0, none⟩ (.string p8)).setCell ⟨b7, 1, none⟩ (.string q8))) := ((B.out.setCell ge_v.out _).setCell ge_v.out _)
  clear hBut
  have zu_0 : ((W14.setCell ⟨b7, 0, none⟩ (.string p8)).setCell ⟨b7, 1, none⟩ (.string q8)).cell? ⟨b4, 0, none⟩ = some (.string p8) := Ju.out.cell 0 (by simp)
  have zu_1 : ((W14.setCell ⟨b7, 0, none⟩ (.string p8)).setCell ⟨b7, 1, none⟩ (.string q8)).cell? ⟨b4, 1, none⟩ = some (.string q8) := Ju.out.cell 1 (by simp)
  have zc_0 : ((W14.setCell ⟨b7, 0, none⟩ (.string p8)).setCell ⟨b7, 1, none⟩ (.string q8)).cell? ⟨w.heap.size, 0, none⟩ = some (.string a) := Jc.out.cell 0 (by simp)
  have zc_1 : ((W14.setCell ⟨b7, 0, none⟩ (.string p8)).setCell ⟨b7, 1, none⟩ (.string q8)).cell? ⟨w.heap.size, 1, none⟩ = some (.string b) := Jc.out.cell 1 (by simp)
  go_wp2_with fail
  clear zu_0 zu_1 zc_0 zc_1
  clear y0 y1 f0
  generalize ((W14.setCell ⟨b7, 0, none⟩ (.string p8)).setCell ⟨b7, 1, none⟩ (.string q8)) = W15 at *
  refine (g10.out _).mono ?_
  rintro e W16 ⟨rfl, hb⟩
  replace B := aB B hb
  replace Jc := aJ Jc hb
  replace Ju := aJ Ju hb
  replace Jv := aJ Jv hb
  clear hb
  have zc_0 : W16.cell? ⟨w.heap.size, 0, none⟩ = some (.string a) := Jc.out.cell 0 (by simp)
  have zc_1 : W16.cell? ⟨w.heap.size, 1, none⟩ = some (.string b) := Jc.out.cell 1 (by simp)
  go_wp2_with fail
  clear zc_0 zc_1
  refine (g11.out _).mono ?_
  rintro e W17 ⟨rfl, hb⟩
  replace B := aB B hb
  replace Jc := aJ Jc hb
  replace Ju := aJ Ju hb
  replace Jv := aJ Jv hb
  clear hb
  go_wp2_with fail
  go_ret
  exact ⟨by simp, B.out⟩
end Go.Proofs.YtohpbclofcflaaaGreat
