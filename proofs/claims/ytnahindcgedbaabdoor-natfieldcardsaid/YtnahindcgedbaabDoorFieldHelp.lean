/- The walks of what the law asks of fractions: good, plus, times. -/
import Derived.Test.YtnahindcgedbaabDoorFracFace
import Derived.Test.YtnahindcgedbaabDoorFieldPlain
set_option linter.unusedSimpArgs false
set_option linter.unusedVariables false
namespace Go.Proofs.YtnahindcgedbaabDoor
open Go.RowKit Go.Deep Go.PlainAid

/-- A fraction of at most 600 digits above and below. -/
def Gd (n d : ByteArray) : Prop := wrF n d = 0 ∧ n.size ≤ 600 ∧ d.size ≤ 600
theorem IHolds.six {w : World} {b : Nat} {t : TypeId} {x0 x1 x2 x3 x4 x5 : Value} (h : IHolds w b t [x0, x1, x2, x3, x4, x5]) : w.cell? ⟨b, 0, none⟩ = some x0 ∧ w.cell? ⟨b, 1, none⟩ = some x1 ∧ w.cell? ⟨b, 2, none⟩ = some x2 ∧ w.cell? ⟨b, 3, none⟩ = some x3 ∧ w.cell? ⟨b, 4, none⟩ = some x4 ∧ w.cell? ⟨b, 5, none⟩ = some x5 :=
  ⟨h.cell 0 (by simp), h.cell 1 (by simp), h.cell 2 (by simp), h.cell 3 (by simp), h.cell 4 (by simp), h.cell 5 (by simp)⟩
set_option maxRecDepth 100000 in
set_option maxHeartbeats 4000000 in
theorem good_any {n1 d1 n2 d2 n3 d3 : ByteArray} {w : World} {g : Nat} (R : Bool) (hI : IHolds w g 23 [.string n1, .string d1, .string n2, .string d2, .string n3, .string d3]) (hT : Gd n1 d1 → Gd n2 d2 → Gd n3 d3 → R = true) (hF1 : ¬ Gd n1 d1 → R = false) (hF2 : ¬ Gd n2 d2 → R = false) (hF3 : ¬ Gd n3 d3 → R = false)
    (s1 : n1.size ≤ 4611686018427387904) (s2 : d1.size ≤ 4611686018427387904) (s3 : n2.size ≤ 4611686018427387904) (s4 : d2.size ≤ 4611686018427387904) (s5 : n3.size ≤ 4611686018427387904) (s6 : d3.size ≤ 4611686018427387904) :
    Calls Tryd.prog 4 #[.slice (some ⟨g, 0, none⟩) 3 3, .int .i64 600] w fun e w' => e = .returned (.bool R) ∧ Below w.heap.size w w' := by
  have HI : Hid (IHolds w g 23 [.string n1, .string d1, .string n2, .string d2, .string n3, .string d3]) := hI
  have HT : Hid (Gd n1 d1 → Gd n2 d2 → Gd n3 d3 → R = true) := hT
  have HF1 : Hid (¬ Gd n1 d1 → R = false) := hF1
  have HF2 : Hid (¬ Gd n2 d2 → R = false) := hF2
  have HF3 : Hid (¬ Gd n3 d3 → R = false) := hF3
  have C1 : Hid (∀ W, Calls Tryd.prog 10 #[.string n1, .string d1] W fun e w' => e = .returned (.int .i64 (wrF n1 d1 : Int)) ∧ Below W.heap.size W w') := fun W => wrongFrac_any n1 d1 W s1 s2
  have C2 : Hid (∀ W, Calls Tryd.prog 10 #[.string n2, .string d2] W fun e w' => e = .returned (.int .i64 (wrF n2 d2 : Int)) ∧ Below W.heap.size W w') := fun W => wrongFrac_any n2 d2 W s3 s4
  have C3 : Hid (∀ W, Calls Tryd.prog 10 #[.string n3, .string d3] W fun e w' => e = .returned (.int .i64 (wrF n3 d3 : Int)) ∧ Below W.heap.size W w') := fun W => wrongFrac_any n3 d3 W s5 s6
  clear hI hT hF1 hF2 hF3
  go_enter Tryd.func4, Tryd.ntmps4
  go_wp2_with fail
  go_loopg [9] 3 (fun gk v9 wr => ∃ i : Nat, i + gk = 3 ∧ v9 = .int .i64 (i : Int) ∧ (1 ≤ i → Gd n1 d1) ∧ (2 ≤ i → Gd n2 d2) ∧ (3 ≤ i → Gd n3 d3) ∧ Below w.heap.size w wr)
  case atStart => exact ⟨0, by omega, rfl, by omega, by omega, by omega, Below.refl _ _⟩
  case round =>
    obtain ⟨i, hi, rfl, g1, g2, g3, bb⟩ := hrel
    have B : Hid (Below w.heap.size w wr) := bb
    have J : IHolds wr g 23 [.string n1, .string d1, .string n2, .string d2, .string n3, .string d3] := HI.out.of_below bb
    have G1 : Hid (1 ≤ i → Gd n1 d1) := g1
    have G2 : Hid (2 ≤ i → Gd n2 d2) := g2
    have G3 : Hid (3 ≤ i → Gd n3 d3) := g3
    clear bb g1 g2 g3
    obtain ⟨c0, c1, c2, c3, c4, c5⟩ := J.six
    clear J
    have hi3 : i = 0 ∨ i = 1 ∨ i = 2 ∨ i = 3 := by omega
    rcases hi3 with rfl | rfl | rfl | rfl
    · have B2 : Hid (Below w.heap.size w (wr.alloc (.cells #[.string n1, .string d1] 23))) := aB B (nB _ _)
      by_cases hw : wrF n1 d1 = 0
      · have CC : Hid (∀ W, Calls Tryd.prog 10 #[.string n1, .string d1] W fun e w' => e = .returned (.int .i64 0) ∧ Below W.heap.size W w') := fun W => by
          have := C1.out W
          rw [hw] at this
          exact this
        have MK : Hid (n1.size ≤ 600 → d1.size ≤ 600 → Gd n1 d1) := fun a b => ⟨hw, a, b⟩
        have NG1 : Hid (¬ n1.size ≤ 600 → R = false) := fun h => HF1.out (fun g => h g.2.1)
        have NG2 : Hid (¬ d1.size ≤ 600 → R = false) := fun h => HF1.out (fun g => h g.2.2)
        clear hw
        go_wp2_with fail
        have JB : Hid (IHolds (wr.alloc (.cells #[.string n1, .string d1] 23)) wr.heap.size 23 [.string n1, .string d1]) := IHolds.new _ _ _
        refine (CC.out _).mono ?_
        rintro e U1 ⟨rfl, hb⟩
        replace B2 := aB B2 hb
        replace JB := aJ JB hb
        clear hb
        obtain ⟨z0, z1⟩ := cJ JB
        by_cases h6 : n1.size ≤ 600
        · have h6' : ¬ (600 : Int) < (n1.size : Int) := by omega
          by_cases h7 : d1.size ≤ 600
          · have h7' : ¬ (600 : Int) < (d1.size : Int) := by omega
            have HG : Hid (Gd n1 d1) := MK.out h6 h7
            go_wp2_with fail
            go_roundg (gk - 1)
            case measure => omega
            case rel => exact ⟨1, by omega, by go_num, (fun _ => HG.out), (by omega), (by omega), B2.out⟩
          · have h7' : (600 : Int) < (d1.size : Int) := by omega
            have hR := NG2.out h7
            subst hR
            clear NG1 NG2 HT HF1 HF2 HF3
            go_wp2_with fail
            go_ret
            exact ⟨rfl, B2.out⟩
        · have h6' : (600 : Int) < (n1.size : Int) := by omega
          have hR := NG1.out h6
          subst hR
          clear NG1 NG2 HT HF1 HF2 HF3
          go_wp2_with fail
          go_ret
          exact ⟨rfl, B2.out⟩
      · have hw' : ((wrF n1 d1 : Int) != 0) = true := bne_iff_ne.2 (by omega)
        have hR := HF1.out (fun g => hw g.1)
        subst hR
        clear HT HF1 HF2 HF3
        have CC : Hid _ := C1
        generalize wrF n1 d1 = x at *
        go_wp2_with fail
        refine (C1.out _).mono ?_
        rintro e U1 ⟨rfl, hb⟩
        replace B2 := aB B2 hb
        clear hb
        go_wp2_with fail
        go_ret
        exact ⟨rfl, B2.out⟩
    · have B2 : Hid (Below w.heap.size w (wr.alloc (.cells #[.string n2, .string d2] 23))) := aB B (nB _ _)
      by_cases hw : wrF n2 d2 = 0
      · have CC : Hid (∀ W, Calls Tryd.prog 10 #[.string n2, .string d2] W fun e w' => e = .returned (.int .i64 0) ∧ Below W.heap.size W w') := fun W => by
          have := C2.out W
          rw [hw] at this
          exact this
        have MK : Hid (n2.size ≤ 600 → d2.size ≤ 600 → Gd n2 d2) := fun a b => ⟨hw, a, b⟩
        have NG1 : Hid (¬ n2.size ≤ 600 → R = false) := fun h => HF2.out (fun g => h g.2.1)
        have NG2 : Hid (¬ d2.size ≤ 600 → R = false) := fun h => HF2.out (fun g => h g.2.2)
        clear hw
        go_wp2_with fail
        have JB : Hid (IHolds (wr.alloc (.cells #[.string n2, .string d2] 23)) wr.heap.size 23 [.string n2, .string d2]) := IHolds.new _ _ _
        refine (CC.out _).mono ?_
        rintro e U1 ⟨rfl, hb⟩
        replace B2 := aB B2 hb
        replace JB := aJ JB hb
        clear hb
        obtain ⟨z0, z1⟩ := cJ JB
        by_cases h6 : n2.size ≤ 600
        · have h6' : ¬ (600 : Int) < (n2.size : Int) := by omega
          by_cases h7 : d2.size ≤ 600
          · have h7' : ¬ (600 : Int) < (d2.size : Int) := by omega
            have HG : Hid (Gd n2 d2) := MK.out h6 h7
            go_wp2_with fail
            go_roundg (gk - 1)
            case measure => omega
            case rel => exact ⟨2, by omega, by go_num, (fun _ => G1.out (by omega)), (fun _ => HG.out), (by omega), B2.out⟩
          · have h7' : (600 : Int) < (d2.size : Int) := by omega
            have hR := NG2.out h7
            subst hR
            clear NG1 NG2 HT HF1 HF2 HF3
            go_wp2_with fail
            go_ret
            exact ⟨rfl, B2.out⟩
        · have h6' : (600 : Int) < (n2.size : Int) := by omega
          have hR := NG1.out h6
          subst hR
          clear NG1 NG2 HT HF1 HF2 HF3
          go_wp2_with fail
          go_ret
          exact ⟨rfl, B2.out⟩
      · have hw' : ((wrF n2 d2 : Int) != 0) = true := bne_iff_ne.2 (by omega)
        have hR := HF2.out (fun g => hw g.1)
        subst hR
        clear HT HF1 HF2 HF3
        have CC : Hid _ := C2
        generalize wrF n2 d2 = x at *
        go_wp2_with fail
        refine (C2.out _).mono ?_
        rintro e U1 ⟨rfl, hb⟩
        replace B2 := aB B2 hb
        clear hb
        go_wp2_with fail
        go_ret
        exact ⟨rfl, B2.out⟩
    · have B2 : Hid (Below w.heap.size w (wr.alloc (.cells #[.string n3, .string d3] 23))) := aB B (nB _ _)
      by_cases hw : wrF n3 d3 = 0
      · have CC : Hid (∀ W, Calls Tryd.prog 10 #[.string n3, .string d3] W fun e w' => e = .returned (.int .i64 0) ∧ Below W.heap.size W w') := fun W => by
          have := C3.out W
          rw [hw] at this
          exact this
        have MK : Hid (n3.size ≤ 600 → d3.size ≤ 600 → Gd n3 d3) := fun a b => ⟨hw, a, b⟩
        have NG1 : Hid (¬ n3.size ≤ 600 → R = false) := fun h => HF3.out (fun g => h g.2.1)
        have NG2 : Hid (¬ d3.size ≤ 600 → R = false) := fun h => HF3.out (fun g => h g.2.2)
        clear hw
        go_wp2_with fail
        have JB : Hid (IHolds (wr.alloc (.cells #[.string n3, .string d3] 23)) wr.heap.size 23 [.string n3, .string d3]) := IHolds.new _ _ _
        refine (CC.out _).mono ?_
        rintro e U1 ⟨rfl, hb⟩
        replace B2 := aB B2 hb
        replace JB := aJ JB hb
        clear hb
        obtain ⟨z0, z1⟩ := cJ JB
        by_cases h6 : n3.size ≤ 600
        · have h6' : ¬ (600 : Int) < (n3.size : Int) := by omega
          by_cases h7 : d3.size ≤ 600
          · have h7' : ¬ (600 : Int) < (d3.size : Int) := by omega
            have HG : Hid (Gd n3 d3) := MK.out h6 h7
            go_wp2_with fail
            go_roundg (gk - 1)
            case measure => omega
            case rel => exact ⟨3, by omega, by go_num, (fun _ => G1.out (by omega)), (fun _ => G2.out (by omega)), (fun _ => HG.out), B2.out⟩
          · have h7' : (600 : Int) < (d3.size : Int) := by omega
            have hR := NG2.out h7
            subst hR
            clear NG1 NG2 HT HF1 HF2 HF3
            go_wp2_with fail
            go_ret
            exact ⟨rfl, B2.out⟩
        · have h6' : (600 : Int) < (n3.size : Int) := by omega
          have hR := NG1.out h6
          subst hR
          clear NG1 NG2 HT HF1 HF2 HF3
          go_wp2_with fail
          go_ret
          exact ⟨rfl, B2.out⟩
      · have hw' : ((wrF n3 d3 : Int) != 0) = true := bne_iff_ne.2 (by omega)
        have hR := HF3.out (fun g => hw g.1)
        subst hR
        clear HT HF1 HF2 HF3
        have CC : Hid _ := C3
        generalize wrF n3 d3 = x at *
        go_wp2_with fail
        refine (C3.out _).mono ?_
        rintro e U1 ⟨rfl, hb⟩
        replace B2 := aB B2 hb
        clear hb
        go_wp2_with fail
        go_ret
        exact ⟨rfl, B2.out⟩
    · have hR := HT.out (G1.out (by omega)) (G2.out (by omega)) (G3.out (by omega))
      subst hR
      go_wp2_with fail
      go_ret
      exact ⟨rfl, B.out⟩
set_option maxRecDepth 100000 in
set_option maxHeartbeats 2000000 in
theorem lawTimes_call {n1 d1 n2 d2 : ByteArray} {w : World} {T1 T2 : ByteArray} {c : Int} (H : Hid (∀ W, Calls Tryd.prog 11 #[.agg #[.string n1, .string d1], .agg #[.string n2, .string d2]] W fun e w' => e = .returned (.tuple #[.agg #[.string T1, .string T2], .int .i64 c]) ∧ Below W.heap.size W w')) :
    Calls Tryd.prog 5 #[.agg #[.string n1, .string d1], .agg #[.string n2, .string d2]] w fun e w' => e = .returned (.agg #[.string T1, .string T2]) ∧ Below w.heap.size w w' := by
  go_enter Tryd.func5, Tryd.ntmps5
  go_wp2_with fail
  obtain ⟨U1, hU1⟩ : ∃ X, X = (((w.alloc (.cells #[(.string n1), (.string d1)] 23)).alloc (.cells #[(.string n2), (.string d2)] 23)).alloc (.cells #[(.string ⟨#[]⟩), (.string ⟨#[]⟩)] 23)) := ⟨_, rfl⟩
  have Jx : Hid (IHolds U1 (w.heap.size) 23 [(.string n1), (.string d1)]) := by
    have q := IHolds.new w 23 [(.string n1), (.string d1)]
    show IHolds _ _ _ _
    rw [hU1]
    exact ((q.alloc _).alloc _)
  have Jy : Hid (IHolds U1 (w.heap.size + 1) 23 [(.string n2), (.string d2)]) := by
    have q := IHolds.new (w.alloc (.cells #[(.string n1), (.string d1)] 23)) 23 [(.string n2), (.string d2)]
    simp only [World.size_alloc, Nat.add_assoc, Nat.reduceAdd] at q
    show IHolds _ _ _ _
    rw [hU1]
    exact (q.alloc _)
  have Jr : Hid (IHolds U1 (w.heap.size + 2) 23 [(.string ⟨#[]⟩), (.string ⟨#[]⟩)]) := by
    have q := IHolds.new ((w.alloc (.cells #[(.string n1), (.string d1)] 23)).alloc (.cells #[(.string n2), (.string d2)] 23)) 23 [(.string ⟨#[]⟩), (.string ⟨#[]⟩)]
    simp only [World.size_alloc, Nat.add_assoc, Nat.reduceAdd] at q
    show IHolds _ _ _ _
    rw [hU1]
    exact q
  have B : Hid (Below w.heap.size w U1) := by
    show Below _ _ _
    rw [hU1]
    exact ((((Below.refl _ w).alloc (Nat.le_refl _) _).alloc (by simp only [World.size_alloc]; omega) _).alloc (by simp only [World.size_alloc]; omega) _)
  rw [← hU1]
  clear hU1
  refine (H.out U1).mono ?_
  rintro e U2 ⟨rfl, hb⟩
  replace B := aB B hb
  replace Jx := aJ Jx hb
  replace Jy := aJ Jy hb
  replace Jr := aJ Jr hb
  clear hb
  have hb := nB U2 (.cells #[.string T1, .string T2] 23)
  replace B := aB B hb
  replace Jx := aJ Jx hb
  replace Jy := aJ Jy hb
  replace Jr := aJ Jr hb
  clear hb
  obtain ⟨zr_0, zr_1⟩ := cJ Jr
  have f0 := fJ Jr
  have hBut : But (w.heap.size + 2) (U2.alloc (.cells #[.string T1, .string T2] 23)) (((U2.alloc (.cells #[.string T1, .string T2] 23)).setCell ⟨w.heap.size + 2, 0, none⟩ (.string T1)).setCell ⟨w.heap.size + 2, 1, none⟩ (.string T2)) := (((But.refl _ (U2.alloc (.cells #[.string T1, .string T2] 23))).setCell 0 (.string T1)).setCell 1 (.string T2))
  have I4 : Hid (IHolds _ (w.heap.size + 2) 23 [(.string T1), (.string T2)]) := ((Jr.out.set 0 (.string T1)).set 1 (.string T2))
  replace B : Hid (Below w.heap.size w (((U2.alloc (.cells #[.string T1, .string T2] 23)).setCell ⟨w.heap.size + 2, 0, none⟩ (.string T1)).setCell ⟨w.heap.size + 2, 1, none⟩ (.string T2))) := ((B.out.setCell (by first | exact Nat.le_refl _ | exact ge_r.out | (show w.heap.size ≤ w.heap.size + 2; omega)) _).setCell (by first | exact Nat.le_refl _ | exact ge_r.out | (show w.heap.size ≤ w.heap.size + 2; omega)) _)
  replace Jx := tJ Jx hBut (by first | omega | exact ne_x_r.out | exact fun h => ne_r_x.out h.symm)
  replace Jy := tJ Jy hBut (by first | omega | exact ne_y_r.out | exact fun h => ne_r_y.out h.symm)
  replace Jr := I4
  clear I4 hBut
  go_wp2_with fail
  clear zr_0 zr_1
  clear f0
  generalize (((U2.alloc (.cells #[.string T1, .string T2] 23)).setCell ⟨w.heap.size + 2, 0, none⟩ (.string T1)).setCell ⟨w.heap.size + 2, 1, none⟩ (.string T2)) = U3 at *
  have E0 : Hid (U3.cell? ⟨w.heap.size + 2, 0, none⟩ = some ((.string T1))) := IHolds.cell (l := [(.string T1), (.string T2)]) (t := 23) (b := w.heap.size + 2) (w := U3) Jr.out 0 (by simp)
  have E1 : Hid (U3.cell? ⟨w.heap.size + 2, 1, none⟩ = some ((.string T2))) := IHolds.cell (l := [(.string T1), (.string T2)]) (t := 23) (b := w.heap.size + 2) (w := U3) Jr.out 1 (by simp)
  exact bodyPost_ret (v := .agg #[(.string T1), (.string T2)]) (by simp [results, Tryd.results5, go_sem, E0.out, E1.out]) rfl ⟨rfl, B.out⟩
set_option maxRecDepth 100000 in
set_option maxHeartbeats 2000000 in
theorem lawPlus_call {n1 d1 n2 d2 : ByteArray} {w : World} {T1 T2 : ByteArray} {c : Int} (H : Hid (∀ W, Calls Tryd.prog 12 #[.agg #[.string n1, .string d1], .agg #[.string n2, .string d2]] W fun e w' => e = .returned (.tuple #[.agg #[.string T1, .string T2], .int .i64 c]) ∧ Below W.heap.size W w')) :
    Calls Tryd.prog 6 #[.agg #[.string n1, .string d1], .agg #[.string n2, .string d2]] w fun e w' => e = .returned (.agg #[.string T1, .string T2]) ∧ Below w.heap.size w w' := by
  go_enter Tryd.func6, Tryd.ntmps6
  go_wp2_with fail
  obtain ⟨U1, hU1⟩ : ∃ X, X = (((w.alloc (.cells #[(.string n1), (.string d1)] 23)).alloc (.cells #[(.string n2), (.string d2)] 23)).alloc (.cells #[(.string ⟨#[]⟩), (.string ⟨#[]⟩)] 23)) := ⟨_, rfl⟩
  have Jx : Hid (IHolds U1 (w.heap.size) 23 [(.string n1), (.string d1)]) := by
    have q := IHolds.new w 23 [(.string n1), (.string d1)]
    show IHolds _ _ _ _
    rw [hU1]
    exact ((q.alloc _).alloc _)
  have Jy : Hid (IHolds U1 (w.heap.size + 1) 23 [(.string n2), (.string d2)]) := by
    have q := IHolds.new (w.alloc (.cells #[(.string n1), (.string d1)] 23)) 23 [(.string n2), (.string d2)]
    simp only [World.size_alloc, Nat.add_assoc, Nat.reduceAdd] at q
    show IHolds _ _ _ _
    rw [hU1]
    exact (q.alloc _)
  have Jr : Hid (IHolds U1 (w.heap.size + 2) 23 [(.string ⟨#[]⟩), (.string ⟨#[]⟩)]) := by
    have q := IHolds.new ((w.alloc (.cells #[(.string n1), (.string d1)] 23)).alloc (.cells #[(.string n2), (.string d2)] 23)) 23 [(.string ⟨#[]⟩), (.string ⟨#[]⟩)]
    simp only [World.size_alloc, Nat.add_assoc, Nat.reduceAdd] at q
    show IHolds _ _ _ _
    rw [hU1]
    exact q
  have B : Hid (Below w.heap.size w U1) := by
    show Below _ _ _
    rw [hU1]
    exact ((((Below.refl _ w).alloc (Nat.le_refl _) _).alloc (by simp only [World.size_alloc]; omega) _).alloc (by simp only [World.size_alloc]; omega) _)
  rw [← hU1]
  clear hU1
  refine (H.out U1).mono ?_
  rintro e U2 ⟨rfl, hb⟩
  replace B := aB B hb
  replace Jx := aJ Jx hb
  replace Jy := aJ Jy hb
  replace Jr := aJ Jr hb
  clear hb
  have hb := nB U2 (.cells #[.string T1, .string T2] 23)
  replace B := aB B hb
  replace Jx := aJ Jx hb
  replace Jy := aJ Jy hb
  replace Jr := aJ Jr hb
  clear hb
  obtain ⟨zr_0, zr_1⟩ := cJ Jr
  have f0 := fJ Jr
  have hBut : But (w.heap.size + 2) (U2.alloc (.cells #[.string T1, .string T2] 23)) (((U2.alloc (.cells #[.string T1, .string T2] 23)).setCell ⟨w.heap.size + 2, 0, none⟩ (.string T1)).setCell ⟨w.heap.size + 2, 1, none⟩ (.string T2)) := (((But.refl _ (U2.alloc (.cells #[.string T1, .string T2] 23))).setCell 0 (.string T1)).setCell 1 (.string T2))
  have I4 : Hid (IHolds _ (w.heap.size + 2) 23 [(.string T1), (.string T2)]) := ((Jr.out.set 0 (.string T1)).set 1 (.string T2))
  replace B : Hid (Below w.heap.size w (((U2.alloc (.cells #[.string T1, .string T2] 23)).setCell ⟨w.heap.size + 2, 0, none⟩ (.string T1)).setCell ⟨w.heap.size + 2, 1, none⟩ (.string T2))) := ((B.out.setCell (by first | exact Nat.le_refl _ | exact ge_r.out | (show w.heap.size ≤ w.heap.size + 2; omega)) _).setCell (by first | exact Nat.le_refl _ | exact ge_r.out | (show w.heap.size ≤ w.heap.size + 2; omega)) _)
  replace Jx := tJ Jx hBut (by first | omega | exact ne_x_r.out | exact fun h => ne_r_x.out h.symm)
  replace Jy := tJ Jy hBut (by first | omega | exact ne_y_r.out | exact fun h => ne_r_y.out h.symm)
  replace Jr := I4
  clear I4 hBut
  go_wp2_with fail
  clear zr_0 zr_1
  clear f0
  generalize (((U2.alloc (.cells #[.string T1, .string T2] 23)).setCell ⟨w.heap.size + 2, 0, none⟩ (.string T1)).setCell ⟨w.heap.size + 2, 1, none⟩ (.string T2)) = U3 at *
  have E0 : Hid (U3.cell? ⟨w.heap.size + 2, 0, none⟩ = some ((.string T1))) := IHolds.cell (l := [(.string T1), (.string T2)]) (t := 23) (b := w.heap.size + 2) (w := U3) Jr.out 0 (by simp)
  have E1 : Hid (U3.cell? ⟨w.heap.size + 2, 1, none⟩ = some ((.string T2))) := IHolds.cell (l := [(.string T1), (.string T2)]) (t := 23) (b := w.heap.size + 2) (w := U3) Jr.out 1 (by simp)
  exact bodyPost_ret (v := .agg #[(.string T1), (.string T2)]) (by simp [results, Tryd.results6, go_sem, E0.out, E1.out]) rfl ⟨rfl, B.out⟩
end Go.Proofs.YtnahindcgedbaabDoor
