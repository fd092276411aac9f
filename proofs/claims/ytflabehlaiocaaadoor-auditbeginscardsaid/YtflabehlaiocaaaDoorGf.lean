/- What is no fraction; readShort of anything. -/
import Derived.Test.YtflabehlaiocaaaDoorGe
set_option linter.unusedSimpArgs false
set_option linter.unusedVariables false
namespace Go.Proofs.YtflabehlaiocaaaDoor
open Go.RowKit Go.Deep Go.PlainAid

set_option maxRecDepth 100000 in
set_option maxHeartbeats 4000000 in
theorem terms_no_n (n d : ByteArray) (w : World) (In : Hid (∀ W, Calls Tryd.prog 62 #[.string n] W fun e w' => e = .returned (.bool false) ∧ w' = W))  :
    Calls Tryd.prog 50 #[.agg #[.string n, .string d]] w fun e w' => e = .returned (.tuple #[.agg #[.slice none 0 0, .slice none 0 0], .bool false]) ∧ Below w.heap.size w w' := by
  go_enter Tryd.func50, Tryd.ntmps50
  go_wp2_with fail
  obtain ⟨U1, hU1⟩ : ∃ X, X = ((w.alloc (.cells #[(.string n), (.string d)] 24)).alloc (.cells #[(.slice none 0 0), (.slice none 0 0)] 39)) := ⟨_, rfl⟩
  have Jx : Hid (IHolds U1 (w.heap.size) 24 [(.string n), (.string d)]) := by
    have q := IHolds.new w 24 [(.string n), (.string d)]
    show IHolds _ _ _ _
    rw [hU1]
    exact (q.alloc _)
  have Jr : Hid (IHolds U1 (w.heap.size + 1) 39 [(.slice none 0 0), (.slice none 0 0)]) := by
    have q := IHolds.new (w.alloc (.cells #[(.string n), (.string d)] 24)) 39 [(.slice none 0 0), (.slice none 0 0)]
    simp only [World.size_alloc, Nat.add_assoc, Nat.reduceAdd] at q
    show IHolds _ _ _ _
    rw [hU1]
    exact q
  have B : Hid (Below w.heap.size w U1) := by
    show Below _ _ _
    rw [hU1]
    exact (((Below.refl _ w).alloc (Nat.le_refl _) _).alloc (by simp only [World.size_alloc]; omega) _)
  rw [← hU1]
  clear hU1
  refine (In.out U1).mono ?_
  rintro e V0 ⟨rfl, rfl⟩
  have Kx : Hid (IHolds V0 (w.heap.size) 24 [(.string n), (.string d)]) := Jx.out
  obtain ⟨zr_0, zr_1⟩ := cJ Jr
  have f0 := fJ Jr
  have hBut : But (w.heap.size + 1) V0 ((V0.setCell ⟨w.heap.size + 1, 0, none⟩ (.slice none 0 0)).setCell ⟨w.heap.size + 1, 1, none⟩ (.slice none 0 0)) := (((But.refl _ V0).setCell 0 (.slice none 0 0)).setCell 1 (.slice none 0 0))
  have I4 : Hid (IHolds _ (w.heap.size + 1) 39 [(.slice none 0 0), (.slice none 0 0)]) := ((Jr.out.set 0 (.slice none 0 0)).set 1 (.slice none 0 0))
  replace B : Hid (Below w.heap.size w ((V0.setCell ⟨w.heap.size + 1, 0, none⟩ (.slice none 0 0)).setCell ⟨w.heap.size + 1, 1, none⟩ (.slice none 0 0))) := ((B.out.setCell (by first | exact Nat.le_refl _ | exact ge_r.out | (show w.heap.size ≤ w.heap.size + 1; omega)) _).setCell (by first | exact Nat.le_refl _ | exact ge_r.out | (show w.heap.size ≤ w.heap.size + 1; omega)) _)
  replace Jx := tJ Jx hBut (by omega)
  replace Jr := I4
  clear I4 hBut
  obtain ⟨zx_0, zx_1⟩ := cJ Kx
  go_wp2_with fail
  clear zx_0 zx_1
  clear Kx
  clear zr_0 zr_1
  clear f0
  generalize ((V0.setCell ⟨w.heap.size + 1, 0, none⟩ (.slice none 0 0)).setCell ⟨w.heap.size + 1, 1, none⟩ (.slice none 0 0)) = U2 at *
  have E0 : Hid (U2.cell? ⟨w.heap.size + 1, 0, none⟩ = some ((.slice none 0 0))) := IHolds.cell (l := [(.slice none 0 0), (.slice none 0 0)]) (t := 39) (b := w.heap.size + 1) (w := U2) Jr.out 0 (by simp)
  have E1 : Hid (U2.cell? ⟨w.heap.size + 1, 1, none⟩ = some ((.slice none 0 0))) := IHolds.cell (l := [(.slice none 0 0), (.slice none 0 0)]) (t := 39) (b := w.heap.size + 1) (w := U2) Jr.out 1 (by simp)
  exact bodyPost_ret (v := .tuple #[.agg #[(.slice none 0 0), (.slice none 0 0)], .bool false]) (by simp [results, Tryd.results50, go_sem, E0.out, E1.out]) rfl ⟨rfl, B.out⟩
set_option maxRecDepth 100000 in
set_option maxHeartbeats 4000000 in
theorem terms_no_d (n d : ByteArray) (w : World) (In : Hid (∀ W, Calls Tryd.prog 62 #[.string n] W fun e w' => e = .returned (.bool true) ∧ w' = W)) (Id : Hid (∀ W, Calls Tryd.prog 62 #[.string d] W fun e w' => e = .returned (.bool false) ∧ w' = W))  :
    Calls Tryd.prog 50 #[.agg #[.string n, .string d]] w fun e w' => e = .returned (.tuple #[.agg #[.slice none 0 0, .slice none 0 0], .bool false]) ∧ Below w.heap.size w w' := by
  go_enter Tryd.func50, Tryd.ntmps50
  go_wp2_with fail
  obtain ⟨U1, hU1⟩ : ∃ X, X = ((w.alloc (.cells #[(.string n), (.string d)] 24)).alloc (.cells #[(.slice none 0 0), (.slice none 0 0)] 39)) := ⟨_, rfl⟩
  have Jx : Hid (IHolds U1 (w.heap.size) 24 [(.string n), (.string d)]) := by
    have q := IHolds.new w 24 [(.string n), (.string d)]
    show IHolds _ _ _ _
    rw [hU1]
    exact (q.alloc _)
  have Jr : Hid (IHolds U1 (w.heap.size + 1) 39 [(.slice none 0 0), (.slice none 0 0)]) := by
    have q := IHolds.new (w.alloc (.cells #[(.string n), (.string d)] 24)) 39 [(.slice none 0 0), (.slice none 0 0)]
    simp only [World.size_alloc, Nat.add_assoc, Nat.reduceAdd] at q
    show IHolds _ _ _ _
    rw [hU1]
    exact q
  have B : Hid (Below w.heap.size w U1) := by
    show Below _ _ _
    rw [hU1]
    exact (((Below.refl _ w).alloc (Nat.le_refl _) _).alloc (by simp only [World.size_alloc]; omega) _)
  rw [← hU1]
  clear hU1
  refine (In.out U1).mono ?_
  rintro e V0 ⟨rfl, rfl⟩
  obtain ⟨zx_0, zx_1⟩ := cJ Jx
  go_wp2_with fail
  clear zx_0 zx_1
  refine (Id.out V0).mono ?_
  rintro e V1 ⟨rfl, rfl⟩
  have Kx : Hid (IHolds V1 (w.heap.size) 24 [(.string n), (.string d)]) := Jx.out
  obtain ⟨zr_0, zr_1⟩ := cJ Jr
  have f0 := fJ Jr
  have hBut : But (w.heap.size + 1) V1 ((V1.setCell ⟨w.heap.size + 1, 0, none⟩ (.slice none 0 0)).setCell ⟨w.heap.size + 1, 1, none⟩ (.slice none 0 0)) := (((But.refl _ V1).setCell 0 (.slice none 0 0)).setCell 1 (.slice none 0 0))
  have I4 : Hid (IHolds _ (w.heap.size + 1) 39 [(.slice none 0 0), (.slice none 0 0)]) := ((Jr.out.set 0 (.slice none 0 0)).set 1 (.slice none 0 0))
  replace B : Hid (Below w.heap.size w ((V1.setCell ⟨w.heap.size + 1, 0, none⟩ (.slice none 0 0)).setCell ⟨w.heap.size + 1, 1, none⟩ (.slice none 0 0))) := ((B.out.setCell (by first | exact Nat.le_refl _ | exact ge_r.out | (show w.heap.size ≤ w.heap.size + 1; omega)) _).setCell (by first | exact Nat.le_refl _ | exact ge_r.out | (show w.heap.size ≤ w.heap.size + 1; omega)) _)
  replace Jx := tJ Jx hBut (by omega)
  replace Jr := I4
  clear I4 hBut
  obtain ⟨zx_0, zx_1⟩ := cJ Kx
  go_wp2_with fail
  clear zx_0 zx_1
  clear Kx
  clear zr_0 zr_1
  clear f0
  generalize ((V1.setCell ⟨w.heap.size + 1, 0, none⟩ (.slice none 0 0)).setCell ⟨w.heap.size + 1, 1, none⟩ (.slice none 0 0)) = U2 at *
  have E0 : Hid (U2.cell? ⟨w.heap.size + 1, 0, none⟩ = some ((.slice none 0 0))) := IHolds.cell (l := [(.slice none 0 0), (.slice none 0 0)]) (t := 39) (b := w.heap.size + 1) (w := U2) Jr.out 0 (by simp)
  have E1 : Hid (U2.cell? ⟨w.heap.size + 1, 1, none⟩ = some ((.slice none 0 0))) := IHolds.cell (l := [(.slice none 0 0), (.slice none 0 0)]) (t := 39) (b := w.heap.size + 1) (w := U2) Jr.out 1 (by simp)
  exact bodyPost_ret (v := .tuple #[.agg #[(.slice none 0 0), (.slice none 0 0)], .bool false]) (by simp [results, Tryd.results50, go_sem, E0.out, E1.out]) rfl ⟨rfl, B.out⟩
/-- Is it a short fraction? -/
def rsB (n d : ByteArray) : Bool := decide (n.size ≤ 100) && (decide (d.size ≤ 100) && (isNum n.data.toList && (isNum d.data.toList && (decide (bv d.data.toList ≠ 0) && decide (Nat.gcd (bv n.data.toList) (bv d.data.toList) = 1)))))
theorem dg_short {n : ByteArray} (a : isNum n.data.toList = true) (h : n.size ≤ 100) : (dg 1000000000 (bv n.data.toList)).length ≤ 1000000 := by
  have := dg_len_bv n (wrT_ok a (by omega))
  omega
theorem short_yes (n d : ByteArray) (w : World) (h : rsB n d = true) :
    Calls Tryd.prog 23 #[.agg #[.string n, .string d]] w fun e w' => (∃ u1 u2, e = .returned (.tuple #[.agg #[u1, u2], .bool true]) ∧ NumV w' 1000000000 (bv n.data.toList) u1 ∧ NumV w' 1000000000 (bv d.data.toList) u2) ∧ Below w.heap.size w w' := by
  unfold rsB at h
  simp only [Bool.and_eq_true, decide_eq_true_eq] at h
  obtain ⟨h1, h2, a1, a2, h0, hg⟩ := h
  exact short_ok n d w _ _ (by omega) (by omega) (fun W => read_good n d W a1 a2 (by omega) (by omega) h0 hg (dg_short a1 h1) (dg_short a2 h2))
theorem short_not (n d : ByteArray) (w : World) (h : rsB n d = false) :
    Calls Tryd.prog 23 #[.agg #[.string n, .string d]] w fun e w' => e = .returned (.tuple #[.agg #[.slice none 0 0, .slice none 0 0], .bool false]) ∧ Below w.heap.size w w' := by
  by_cases h1 : 100 < n.size
  · exact short_long1 n d w h1
  by_cases h2 : 100 < d.size
  · exact short_long2 n d w h1 h2
  refine short_no n d w h1 h2 (fun W => ?_)
  cases a1 : isNum n.data.toList with
  | false => exact read_zero n d W (fun V => terms_no_n n d V (fun U => by have := isNumber_any n U (by omega); rw [a1] at this; exact this))
  | true =>
    cases a2 : isNum d.data.toList with
    | false => exact read_zero n d W (fun V => terms_no_d n d V (fun U => by have := isNumber_any n U (by omega); rw [a1] at this; exact this) (fun U => by have := isNumber_any d U (by omega); rw [a2] at this; exact this))
    | true =>
      refine read_bad n d W a1 a2 (by omega) (by omega) ?_ (dg_short a1 (by omega)) (dg_short a2 (by omega))
      by_cases h0 : bv d.data.toList = 0
      · exact .inl h0
      · refine .inr fun hg => ?_
        unfold rsB at h
        rw [a1, a2] at h
        simp [h0, hg] at h
        omega
end Go.Proofs.YtflabehlaiocaaaDoor
