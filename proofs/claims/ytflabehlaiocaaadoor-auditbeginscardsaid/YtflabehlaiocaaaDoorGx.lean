/- The program: Begin. -/
import Derived.Test.YtflabehlaiocaaaDoorGw
import Derived.Test.YtflabehlaiocaaaDoorGh
set_option linter.unusedSimpArgs false
set_option linter.unusedVariables false
set_option maxRecDepth 100000
namespace Go.Proofs.YtflabehlaiocaaaDoor
open Go.RowKit Go.Deep Go.PlainAid

/-- What Begin answers. -/
def beC (t ws : List Int) (n d : ByteArray) : Int := if msB t.length ws = true then 2 else if t.any ntB = true then 4 else if rkC n d ≠ 0 then rkC n d else if tieB t ws = true then 14 else 0
theorem ms_no {N : Nat} {l : List Int} (h : msB N l = false) : 2 ≤ N ∧ N ≤ 12 ∧ 1 ≤ l.length ∧ l.length < N ∧ ∀ x ∈ l, ∃ n : Nat, x = (n : Int) ∧ n < N := by
  unfold msB at h
  simp only [Bool.or_eq_false_iff, Bool.not_eq_false', wiB, Bool.and_eq_true, decide_eq_true_eq] at h
  obtain ⟨h1, h2, h3⟩ := h
  refine ⟨by omega, by omega, by omega, by omega, fun x hx => ?_⟩
  obtain ⟨k, hk, rfl⟩ := List.mem_iff_getElem.1 hx
  rw [List.any_eq_false] at h3
  have q := h3 k (List.mem_range.2 hk)
  simp only [wrB, Bool.or_eq_true, not_or, Bool.not_eq_true, Bool.not_eq_false', wiB, Bool.and_eq_true, decide_eq_true_eq, List.getD_eq_getElem?_getD, List.getElem?_eq_getElem hk, Option.getD_some] at q
  obtain ⟨⟨q1, q2⟩, -⟩ := q
  exact ⟨(l[k]).toNat, by omega, by omega⟩
theorem nt_no {t : List Int} (h : t.any ntB = false) : ∀ x ∈ t, 0 ≤ x ∧ x ≤ 1048576 := fun x hx => by
  rw [List.any_eq_false] at h
  have q := h x hx
  simp only [ntB, wiB, Bool.not_eq_true, Bool.not_eq_false', Bool.and_eq_true, decide_eq_true_eq] at q
  omega
theorem getD_nn {t : List Int} (hr : ∀ x ∈ t, 0 ≤ x ∧ x ≤ 1048576) (k : Nat) : 0 ≤ t.getD k 0 := by
  rw [List.getD_eq_getElem?_getD]
  by_cases hk : k < t.length
  · rw [List.getElem?_eq_getElem hk]; exact (hr _ (List.getElem_mem hk)).1
  · rw [List.getElem?_eq_none (by omega)]; simp
theorem tie_no {t ws : List Int} (hr : ∀ x ∈ t, 0 ≤ x ∧ x ≤ 1048576) (h : tieB t ws = false) : ∀ i ∈ ws, ∀ x ∈ loL ws t.length, tot t x < tot t i := fun i hi x hx => by
  unfold tieB at h
  rw [List.any_eq_false] at h
  have q := h x hx
  rw [Bool.not_eq_true, List.any_eq_false] at q
  have q2 := q i hi
  simp only [tiB, decide_eq_true_eq] at q2
  have := getD_nn hr x.toNat
  have := getD_nn hr i.toNat
  unfold tot
  omega
theorem WT.nil (W : World) : WT W (.slice none 0 0) (.slice none 0 0) (.slice none 0 0) (.slice none 0 0) [] [] [] [] :=
  ⟨⟨0, World.ownsRow_nil _ _ _ _⟩, ⟨0, World.ownsRow_nil _ _ _ _⟩, ⟨0, World.ownsRow_nil _ _ _ _⟩, ⟨0, World.ownsRow_nil _ _ _ _⟩⟩
/-- The end of a way on which the zero watch is answered. -/
theorem zero27 {w W : World} (h : IHolds W (w.heap.size + 1) 27 [.slice none 0 0, .slice none 0 0, .slice none 0 0, .slice none 0 0, .string ⟨#[]⟩, .string ⟨#[]⟩, .int .i64 0]) (hB : Below w.heap.size w W) : IHolds (((((((W.setCell ⟨w.heap.size + 1, 0, none⟩ (.slice none 0 0)).setCell ⟨w.heap.size + 1, 1, none⟩ (.slice none 0 0)).setCell ⟨w.heap.size + 1, 2, none⟩ (.slice none 0 0)).setCell ⟨w.heap.size + 1, 3, none⟩ (.slice none 0 0)).setCell ⟨w.heap.size + 1, 4, none⟩ (.string ⟨#[]⟩)).setCell ⟨w.heap.size + 1, 5, none⟩ (.string ⟨#[]⟩)).setCell ⟨w.heap.size + 1, 6, none⟩ (.int .i64 0)) (w.heap.size + 1) 27 [.slice none 0 0, .slice none 0 0, .slice none 0 0, .slice none 0 0, .string ⟨#[]⟩, .string ⟨#[]⟩, .int .i64 0] ∧ Below w.heap.size w (((((((W.setCell ⟨w.heap.size + 1, 0, none⟩ (.slice none 0 0)).setCell ⟨w.heap.size + 1, 1, none⟩ (.slice none 0 0)).setCell ⟨w.heap.size + 1, 2, none⟩ (.slice none 0 0)).setCell ⟨w.heap.size + 1, 3, none⟩ (.slice none 0 0)).setCell ⟨w.heap.size + 1, 4, none⟩ (.string ⟨#[]⟩)).setCell ⟨w.heap.size + 1, 5, none⟩ (.string ⟨#[]⟩)).setCell ⟨w.heap.size + 1, 6, none⟩ (.int .i64 0)) := by
  obtain ⟨h1, -, h3⟩ := set7 (y1 := .slice none 0 0) (y2 := .slice none 0 0) (y3 := .slice none 0 0) (y4 := .slice none 0 0) (y5 := .string ⟨#[]⟩) (y6 := .string ⟨#[]⟩) (y7 := .int .i64 0) h hB (show w.heap.size ≤ w.heap.size + 1 by omega)
  exact ⟨h1, h3⟩
set_option maxHeartbeats 8000000 in
theorem begin4_form {w : World} {ct cw : Nat} {at_ aw : Option Addr} {t ws : List Int} {n d : ByteArray} (ht : IL w at_ t) (hw : IL w aw ws) (htn : t.length < 9223372036854775808) (hwc : ws.length ≤ cw) (hcw : cw < 9223372036854775808) (h : msB t.length ws = true) :
    Calls Tryd.prog 4 #[.slice at_ t.length ct, .slice aw ws.length cw, .agg #[.string n, .string d]] w fun e w' => e = .returned (.tuple #[.agg #[.slice none 0 0, .slice none 0 0, .slice none 0 0, .slice none 0 0, .string ⟨#[]⟩, .string ⟨#[]⟩, .int .i64 0], .int .i64 2]) ∧ Below w.heap.size w w' := by
  have B0 : Hid (Below w.heap.size w ((w.alloc (.cells #[.string n, .string d] 24)).alloc (.cells #[.slice none 0 0, .slice none 0 0, .slice none 0 0, .slice none 0 0, .string ⟨#[]⟩, .string ⟨#[]⟩, .int .i64 0] 27))) := ((Below.refl _ w).alloc (Nat.le_refl _) _).alloc (by simp only [World.size_alloc]; omega) _
  have J0 : Hid (IHolds ((w.alloc (.cells #[.string n, .string d] 24)).alloc (.cells #[.slice none 0 0, .slice none 0 0, .slice none 0 0, .slice none 0 0, .string ⟨#[]⟩, .string ⟨#[]⟩, .int .i64 0] 27)) (w.heap.size + 1) 27 [.slice none 0 0, .slice none 0 0, .slice none 0 0, .slice none 0 0, .string ⟨#[]⟩, .string ⟨#[]⟩, .int .i64 0]) := by
    have q := IHolds.new (w.alloc (.cells #[.string n, .string d] 24)) 27 [.slice none 0 0, .slice none 0 0, .slice none 0 0, .slice none 0 0, .string ⟨#[]⟩, .string ⟨#[]⟩, .int .i64 0]
    simp only [World.size_alloc] at q
    exact q
  have C7 : Hid (∀ V, Below w.heap.size w V → Calls Tryd.prog 7 #[.slice at_ t.length ct, .slice aw ws.length cw] V fun e w' => e = .returned (.bool true) ∧ w' = V) := fun V hV => by
    have q := misplaced7 (at' := at_) (ct := ct) (hw.of_below hV) hwc (by omega) (show t.length ≤ 9223372036854775807 by omega)
    rw [h] at q
    exact q
  clear ht hw htn hwc hcw
  clear h
  go_enter Tryd.func4, Tryd.ntmps4
  go_wp2_with (go_at_call 7; refine (C7.out _ B0.out).mono ?_)
  rintro e V1 ⟨rfl, hV⟩
  replace B0 : Hid (Below w.heap.size w V1) := by show Below _ _ _; rw [hV]; exact B0.out
  replace J0 : Hid (IHolds V1 (w.heap.size + 1) 27 [.slice none 0 0, .slice none 0 0, .slice none 0 0, .slice none 0 0, .string ⟨#[]⟩, .string ⟨#[]⟩, .int .i64 0]) := by show IHolds _ _ _ _; rw [hV]; exact J0.out
  clear hV
  obtain ⟨e0, e1, e2, e3, e4, e5, e6⟩ := seven (W := V1) (b := w.heap.size + 1) (t := 27) J0.out
  have f0 : ∀ i, V1.frozen? ⟨w.heap.size + 1, i, none⟩ = false := fun i => IHolds.frozen (w := V1) (b := w.heap.size + 1) (t := 27) (l := [.slice none 0 0, .slice none 0 0, .slice none 0 0, .slice none 0 0, .string ⟨#[]⟩, .string ⟨#[]⟩, .int .i64 0]) J0.out i
  obtain ⟨I7, L7⟩ := zero27 (w := w) (W := V1) J0.out B0.out
  have I7' : Hid _ := I7
  have L7' : Hid _ := L7
  clear I7 L7 J0 B0
  go_wp2_with fail
  clear e0 e1 e2 e3 e4 e5 e6 f0
  generalize (((((((V1.setCell ⟨w.heap.size + 1, 0, none⟩ (.slice none 0 0)).setCell ⟨w.heap.size + 1, 1, none⟩ (.slice none 0 0)).setCell ⟨w.heap.size + 1, 2, none⟩ (.slice none 0 0)).setCell ⟨w.heap.size + 1, 3, none⟩ (.slice none 0 0)).setCell ⟨w.heap.size + 1, 4, none⟩ (.string ⟨#[]⟩)).setCell ⟨w.heap.size + 1, 5, none⟩ (.string ⟨#[]⟩)).setCell ⟨w.heap.size + 1, 6, none⟩ (.int .i64 0)) = X at *
  obtain ⟨E0, E1, E2, E3, E4, E5, E6⟩ := seven (W := X) (b := w.heap.size + 1) (t := 27) I7'.out
  exact bodyPost_ret (v := .tuple #[.agg #[.slice none 0 0, .slice none 0 0, .slice none 0 0, .slice none 0 0, .string ⟨#[]⟩, .string ⟨#[]⟩, .int .i64 0], .int .i64 2]) (by simp [results, Tryd.results4, go_sem, E0, E1, E2, E3, E4, E5, E6]) rfl ⟨rfl, L7'.out⟩
set_option maxHeartbeats 8000000 in
theorem begin4_range {w : World} {ct cw : Nat} {at_ aw : Option Addr} {t ws : List Int} {n d : ByteArray} (ht : IL w at_ t) (hw : IL w aw ws) (htn : t.length < 9223372036854775808) (hwc : ws.length ≤ cw) (hcw : cw < 9223372036854775808) (h1 : msB t.length ws = false) (h2 : t.any ntB = true) :
    Calls Tryd.prog 4 #[.slice at_ t.length ct, .slice aw ws.length cw, .agg #[.string n, .string d]] w fun e w' => e = .returned (.tuple #[.agg #[.slice none 0 0, .slice none 0 0, .slice none 0 0, .slice none 0 0, .string ⟨#[]⟩, .string ⟨#[]⟩, .int .i64 0], .int .i64 4]) ∧ Below w.heap.size w w' := by
  have B0 : Hid (Below w.heap.size w ((w.alloc (.cells #[.string n, .string d] 24)).alloc (.cells #[.slice none 0 0, .slice none 0 0, .slice none 0 0, .slice none 0 0, .string ⟨#[]⟩, .string ⟨#[]⟩, .int .i64 0] 27))) := ((Below.refl _ w).alloc (Nat.le_refl _) _).alloc (by simp only [World.size_alloc]; omega) _
  have J0 : Hid (IHolds ((w.alloc (.cells #[.string n, .string d] 24)).alloc (.cells #[.slice none 0 0, .slice none 0 0, .slice none 0 0, .slice none 0 0, .string ⟨#[]⟩, .string ⟨#[]⟩, .int .i64 0] 27)) (w.heap.size + 1) 27 [.slice none 0 0, .slice none 0 0, .slice none 0 0, .slice none 0 0, .string ⟨#[]⟩, .string ⟨#[]⟩, .int .i64 0]) := by
    have q := IHolds.new (w.alloc (.cells #[.string n, .string d] 24)) 27 [.slice none 0 0, .slice none 0 0, .slice none 0 0, .slice none 0 0, .string ⟨#[]⟩, .string ⟨#[]⟩, .int .i64 0]
    simp only [World.size_alloc] at q
    exact q
  have C7 : Hid (∀ V, Below w.heap.size w V → Calls Tryd.prog 7 #[.slice at_ t.length ct, .slice aw ws.length cw] V fun e w' => e = .returned (.bool false) ∧ w' = V) := fun V hV => by
    have q := misplaced7 (at' := at_) (ct := ct) (hw.of_below hV) hwc (by omega) (show t.length ≤ 9223372036854775807 by omega)
    rw [h1] at q
    exact q
  have C8 : Hid (∀ V, Below w.heap.size w V → Calls Tryd.prog 8 #[.slice at_ t.length ct, .func (.func 9) #[] #[]] V fun e w' => e = .returned (.bool true) ∧ w' = V) := fun V hV => by
    have q := containsF8 (c := ct) (ht.of_below hV) htn
    rw [h2] at q
    exact q
  clear ht hw htn hwc hcw
  clear h1 h2
  go_enter Tryd.func4, Tryd.ntmps4
  go_wp2_with (go_at_call 7; refine (C7.out _ B0.out).mono ?_)
  rintro e V1 ⟨rfl, hV⟩
  replace B0 : Hid (Below w.heap.size w V1) := by show Below _ _ _; rw [hV]; exact B0.out
  replace J0 : Hid (IHolds V1 (w.heap.size + 1) 27 [.slice none 0 0, .slice none 0 0, .slice none 0 0, .slice none 0 0, .string ⟨#[]⟩, .string ⟨#[]⟩, .int .i64 0]) := by show IHolds _ _ _ _; rw [hV]; exact J0.out
  clear hV
  go_wp2_with (go_at_call 8; refine (C8.out _ B0.out).mono ?_)
  rintro e V2 ⟨rfl, hV⟩
  replace B0 : Hid (Below w.heap.size w V2) := by show Below _ _ _; rw [hV]; exact B0.out
  replace J0 : Hid (IHolds V2 (w.heap.size + 1) 27 [.slice none 0 0, .slice none 0 0, .slice none 0 0, .slice none 0 0, .string ⟨#[]⟩, .string ⟨#[]⟩, .int .i64 0]) := by show IHolds _ _ _ _; rw [hV]; exact J0.out
  clear hV
  obtain ⟨e0, e1, e2, e3, e4, e5, e6⟩ := seven (W := V2) (b := w.heap.size + 1) (t := 27) J0.out
  have f0 : ∀ i, V2.frozen? ⟨w.heap.size + 1, i, none⟩ = false := fun i => IHolds.frozen (w := V2) (b := w.heap.size + 1) (t := 27) (l := [.slice none 0 0, .slice none 0 0, .slice none 0 0, .slice none 0 0, .string ⟨#[]⟩, .string ⟨#[]⟩, .int .i64 0]) J0.out i
  obtain ⟨I7, L7⟩ := zero27 (w := w) (W := V2) J0.out B0.out
  have I7' : Hid _ := I7
  have L7' : Hid _ := L7
  clear I7 L7 J0 B0
  go_wp2_with fail
  clear e0 e1 e2 e3 e4 e5 e6 f0
  generalize (((((((V2.setCell ⟨w.heap.size + 1, 0, none⟩ (.slice none 0 0)).setCell ⟨w.heap.size + 1, 1, none⟩ (.slice none 0 0)).setCell ⟨w.heap.size + 1, 2, none⟩ (.slice none 0 0)).setCell ⟨w.heap.size + 1, 3, none⟩ (.slice none 0 0)).setCell ⟨w.heap.size + 1, 4, none⟩ (.string ⟨#[]⟩)).setCell ⟨w.heap.size + 1, 5, none⟩ (.string ⟨#[]⟩)).setCell ⟨w.heap.size + 1, 6, none⟩ (.int .i64 0)) = X at *
  obtain ⟨E0, E1, E2, E3, E4, E5, E6⟩ := seven (W := X) (b := w.heap.size + 1) (t := 27) I7'.out
  exact bodyPost_ret (v := .tuple #[.agg #[.slice none 0 0, .slice none 0 0, .slice none 0 0, .slice none 0 0, .string ⟨#[]⟩, .string ⟨#[]⟩, .int .i64 0], .int .i64 4]) (by simp [results, Tryd.results4, go_sem, E0, E1, E2, E3, E4, E5, E6]) rfl ⟨rfl, L7'.out⟩
set_option maxHeartbeats 8000000 in
theorem begin4_risk_walk {w : World} {ct cw : Nat} {at_ aw : Option Addr} {t ws : List Int} {n d : ByteArray} (ht : IL w at_ t) (hw : IL w aw ws) (htn : t.length < 9223372036854775808) (hwc : ws.length ≤ cw) (hcw : cw < 9223372036854775808) (h1 : msB t.length ws = false) (h2 : t.any ntB = false) {z : Int} (hz : (z == 0) = false) (c10 : ∀ V, Calls Tryd.prog 10 #[.agg #[.string n, .string d]] V fun e w' => e = .returned (.tuple #[.agg #[.slice none 0 0, .slice none 0 0], .int .i64 z]) ∧ Below V.heap.size V w') :
    Calls Tryd.prog 4 #[.slice at_ t.length ct, .slice aw ws.length cw, .agg #[.string n, .string d]] w fun e w' => e = .returned (.tuple #[.agg #[.slice none 0 0, .slice none 0 0, .slice none 0 0, .slice none 0 0, .string ⟨#[]⟩, .string ⟨#[]⟩, .int .i64 0], .int .i64 z]) ∧ Below w.heap.size w w' := by
  have B0 : Hid (Below w.heap.size w ((w.alloc (.cells #[.string n, .string d] 24)).alloc (.cells #[.slice none 0 0, .slice none 0 0, .slice none 0 0, .slice none 0 0, .string ⟨#[]⟩, .string ⟨#[]⟩, .int .i64 0] 27))) := ((Below.refl _ w).alloc (Nat.le_refl _) _).alloc (by simp only [World.size_alloc]; omega) _
  have J0 : Hid (IHolds ((w.alloc (.cells #[.string n, .string d] 24)).alloc (.cells #[.slice none 0 0, .slice none 0 0, .slice none 0 0, .slice none 0 0, .string ⟨#[]⟩, .string ⟨#[]⟩, .int .i64 0] 27)) (w.heap.size + 1) 27 [.slice none 0 0, .slice none 0 0, .slice none 0 0, .slice none 0 0, .string ⟨#[]⟩, .string ⟨#[]⟩, .int .i64 0]) := by
    have q := IHolds.new (w.alloc (.cells #[.string n, .string d] 24)) 27 [.slice none 0 0, .slice none 0 0, .slice none 0 0, .slice none 0 0, .string ⟨#[]⟩, .string ⟨#[]⟩, .int .i64 0]
    simp only [World.size_alloc] at q
    exact q
  have C7 : Hid (∀ V, Below w.heap.size w V → Calls Tryd.prog 7 #[.slice at_ t.length ct, .slice aw ws.length cw] V fun e w' => e = .returned (.bool false) ∧ w' = V) := fun V hV => by
    have q := misplaced7 (at' := at_) (ct := ct) (hw.of_below hV) hwc (by omega) (show t.length ≤ 9223372036854775807 by omega)
    rw [h1] at q
    exact q
  have C8 : Hid (∀ V, Below w.heap.size w V → Calls Tryd.prog 8 #[.slice at_ t.length ct, .func (.func 9) #[] #[]] V fun e w' => e = .returned (.bool false) ∧ w' = V) := fun V hV => by
    have q := containsF8 (c := ct) (ht.of_below hV) htn
    rw [h2] at q
    exact q
  have C10 : Hid (∀ V, Calls Tryd.prog 10 #[.agg #[.string n, .string d]] V fun e w' => e = .returned (.tuple #[.agg #[.slice none 0 0, .slice none 0 0], .int .i64 z]) ∧ Below V.heap.size V w') := c10
  clear ht hw htn hwc hcw
  clear h1 h2 c10
  have J1 : Hid (IHolds ((w.alloc (.cells #[.string n, .string d] 24)).alloc (.cells #[.slice none 0 0, .slice none 0 0, .slice none 0 0, .slice none 0 0, .string ⟨#[]⟩, .string ⟨#[]⟩, .int .i64 0] 27)) w.heap.size 24 [.string n, .string d]) := by
    have q := IHolds.new w 24 [.string n, .string d]
    exact q.alloc _
  go_enter Tryd.func4, Tryd.ntmps4
  go_wp2_with (go_at_call 7; refine (C7.out _ B0.out).mono ?_)
  rintro e V1 ⟨rfl, hV⟩
  replace B0 : Hid (Below w.heap.size w V1) := by show Below _ _ _; rw [hV]; exact B0.out
  replace J0 : Hid (IHolds V1 (w.heap.size + 1) 27 [.slice none 0 0, .slice none 0 0, .slice none 0 0, .slice none 0 0, .string ⟨#[]⟩, .string ⟨#[]⟩, .int .i64 0]) := by show IHolds _ _ _ _; rw [hV]; exact J0.out
  replace J1 : Hid (IHolds V1 w.heap.size 24 [.string n, .string d]) := by show IHolds _ _ _ _; rw [hV]; exact J1.out
  clear hV
  go_wp2_with (go_at_call 8; refine (C8.out _ B0.out).mono ?_)
  rintro e V2 ⟨rfl, hV⟩
  replace B0 : Hid (Below w.heap.size w V2) := by show Below _ _ _; rw [hV]; exact B0.out
  replace J0 : Hid (IHolds V2 (w.heap.size + 1) 27 [.slice none 0 0, .slice none 0 0, .slice none 0 0, .slice none 0 0, .string ⟨#[]⟩, .string ⟨#[]⟩, .int .i64 0]) := by show IHolds _ _ _ _; rw [hV]; exact J0.out
  replace J1 : Hid (IHolds V2 w.heap.size 24 [.string n, .string d]) := by show IHolds _ _ _ _; rw [hV]; exact J1.out
  clear hV
  obtain ⟨r0, r1⟩ := cJ J1
  go_wp2_with (go_at_call 10; refine (C10.out _).mono ?_)
  rintro e V3 ⟨rfl, hb⟩
  clear r0 r1
  replace B0 := aB B0 hb
  replace J0 := aJ J0 hb
  replace J1 := aJ J1 hb
  clear hb
  go_upto_region 6 with fail
  have hb := nB V3 (.cells #[.slice none 0 0, .slice none 0 0] 39)
  replace B0 := aB B0 hb
  replace J0 := aJ J0 hb
  replace J1 := aJ J1 hb
  clear hb
  generalize (V3.alloc (.cells #[.slice none 0 0, .slice none 0 0] 39)) = V4 at *
  go_upto_region 7 with fail
  obtain ⟨e0, e1, e2, e3, e4, e5, e6⟩ := seven (W := V4) (b := w.heap.size + 1) (t := 27) J0.out
  have f0 : ∀ i, V4.frozen? ⟨w.heap.size + 1, i, none⟩ = false := fun i => IHolds.frozen (w := V4) (b := w.heap.size + 1) (t := 27) (l := [.slice none 0 0, .slice none 0 0, .slice none 0 0, .slice none 0 0, .string ⟨#[]⟩, .string ⟨#[]⟩, .int .i64 0]) J0.out i
  obtain ⟨I7, L7⟩ := zero27 (w := w) (W := V4) J0.out B0.out
  have I7' : Hid _ := I7
  have L7' : Hid _ := L7
  clear I7 L7 J0 B0
  go_wp2_with fail
  clear e0 e1 e2 e3 e4 e5 e6 f0
  generalize (((((((V4.setCell ⟨w.heap.size + 1, 0, none⟩ (.slice none 0 0)).setCell ⟨w.heap.size + 1, 1, none⟩ (.slice none 0 0)).setCell ⟨w.heap.size + 1, 2, none⟩ (.slice none 0 0)).setCell ⟨w.heap.size + 1, 3, none⟩ (.slice none 0 0)).setCell ⟨w.heap.size + 1, 4, none⟩ (.string ⟨#[]⟩)).setCell ⟨w.heap.size + 1, 5, none⟩ (.string ⟨#[]⟩)).setCell ⟨w.heap.size + 1, 6, none⟩ (.int .i64 0)) = X at *
  obtain ⟨E0, E1, E2, E3, E4, E5, E6⟩ := seven (W := X) (b := w.heap.size + 1) (t := 27) I7'.out
  exact bodyPost_ret (v := .tuple #[.agg #[.slice none 0 0, .slice none 0 0, .slice none 0 0, .slice none 0 0, .string ⟨#[]⟩, .string ⟨#[]⟩, .int .i64 0], .int .i64 z]) (by simp [results, Tryd.results4, go_sem, E0, E1, E2, E3, E4, E5, E6]) rfl ⟨rfl, L7'.out⟩
theorem begin4_risk {w : World} {ct cw : Nat} {at_ aw : Option Addr} {t ws : List Int} {n d : ByteArray} (ht : IL w at_ t) (hw : IL w aw ws) (htn : t.length < 9223372036854775808) (hwc : ws.length ≤ cw) (hcw : cw < 9223372036854775808) (h1 : msB t.length ws = false) (h2 : t.any ntB = false) (h3 : rkC n d ≠ 0) :
    Calls Tryd.prog 4 #[.slice at_ t.length ct, .slice aw ws.length cw, .agg #[.string n, .string d]] w fun e w' => e = .returned (.tuple #[.agg #[.slice none 0 0, .slice none 0 0, .slice none 0 0, .slice none 0 0, .string ⟨#[]⟩, .string ⟨#[]⟩, .int .i64 0], .int .i64 (rkC n d)]) ∧ Below w.heap.size w w' :=
  begin4_risk_walk ht hw htn hwc hcw h1 h2 (beq_eq_false_iff_ne.2 h3) (fun V => risk10_bad n d V h3)
set_option maxHeartbeats 8000000 in
theorem begin4_tie {w : World} {ct cw : Nat} {at_ aw : Option Addr} {t ws : List Int} {n d : ByteArray} (ht : IL w at_ t) (hw : IL w aw ws) (htn : t.length < 9223372036854775808) (hwc : ws.length ≤ cw) (hcw : cw < 9223372036854775808) (h1 : msB t.length ws = false) (h2 : t.any ntB = false) (h3 : rkC n d = 0) (h4 : tieB t ws = true) :
    Calls Tryd.prog 4 #[.slice at_ t.length ct, .slice aw ws.length cw, .agg #[.string n, .string d]] w fun e w' => e = .returned (.tuple #[.agg #[.slice none 0 0, .slice none 0 0, .slice none 0 0, .slice none 0 0, .string ⟨#[]⟩, .string ⟨#[]⟩, .int .i64 0], .int .i64 14]) ∧ Below w.heap.size w w' := by
  have B0 : Hid (Below w.heap.size w ((w.alloc (.cells #[.string n, .string d] 24)).alloc (.cells #[.slice none 0 0, .slice none 0 0, .slice none 0 0, .slice none 0 0, .string ⟨#[]⟩, .string ⟨#[]⟩, .int .i64 0] 27))) := ((Below.refl _ w).alloc (Nat.le_refl _) _).alloc (by simp only [World.size_alloc]; omega) _
  have J0 : Hid (IHolds ((w.alloc (.cells #[.string n, .string d] 24)).alloc (.cells #[.slice none 0 0, .slice none 0 0, .slice none 0 0, .slice none 0 0, .string ⟨#[]⟩, .string ⟨#[]⟩, .int .i64 0] 27)) (w.heap.size + 1) 27 [.slice none 0 0, .slice none 0 0, .slice none 0 0, .slice none 0 0, .string ⟨#[]⟩, .string ⟨#[]⟩, .int .i64 0]) := by
    have q := IHolds.new (w.alloc (.cells #[.string n, .string d] 24)) 27 [.slice none 0 0, .slice none 0 0, .slice none 0 0, .slice none 0 0, .string ⟨#[]⟩, .string ⟨#[]⟩, .int .i64 0]
    simp only [World.size_alloc] at q
    exact q
  have C7 : Hid (∀ V, Below w.heap.size w V → Calls Tryd.prog 7 #[.slice at_ t.length ct, .slice aw ws.length cw] V fun e w' => e = .returned (.bool false) ∧ w' = V) := fun V hV => by
    have q := misplaced7 (at' := at_) (ct := ct) (hw.of_below hV) hwc (by omega) (show t.length ≤ 9223372036854775807 by omega)
    rw [h1] at q
    exact q
  have C8 : Hid (∀ V, Below w.heap.size w V → Calls Tryd.prog 8 #[.slice at_ t.length ct, .func (.func 9) #[] #[]] V fun e w' => e = .returned (.bool false) ∧ w' = V) := fun V hV => by
    have q := containsF8 (c := ct) (ht.of_below hV) htn
    rw [h2] at q
    exact q
  have C10 : Hid (∀ V, Calls Tryd.prog 10 #[.agg #[.string n, .string d]] V fun e w' => (∃ u1 u2, e = .returned (.tuple #[.agg #[u1, u2], .int .i64 0]) ∧ NumV w' 1000000000 (bv n.data.toList) u1 ∧ NumV w' 1000000000 (bv d.data.toList) u2) ∧ Below V.heap.size V w') := fun V => risk10_ok n d V h3
  have MN := ms_no h1
  have C11 : Hid (∀ V, Below w.heap.size w V → Calls Tryd.prog 11 #[.slice at_ t.length ct, .slice aw ws.length cw] V fun e w' => e = .returned (.bool true) ∧ Below V.heap.size V w') := fun V hV => by
    have q := tied11 (ct := ct) (c := cw) (ht.of_below hV) (hw.of_below hV) (by omega) (by omega) MN.2.2.2.2
    rw [h4] at q
    exact q
  clear ht hw htn hwc hcw
  clear h1 h2 h3 h4 MN
  have J1 : Hid (IHolds ((w.alloc (.cells #[.string n, .string d] 24)).alloc (.cells #[.slice none 0 0, .slice none 0 0, .slice none 0 0, .slice none 0 0, .string ⟨#[]⟩, .string ⟨#[]⟩, .int .i64 0] 27)) w.heap.size 24 [.string n, .string d]) := by
    have q := IHolds.new w 24 [.string n, .string d]
    exact q.alloc _
  go_enter Tryd.func4, Tryd.ntmps4
  go_wp2_with (go_at_call 7; refine (C7.out _ B0.out).mono ?_)
  rintro e V1 ⟨rfl, hV⟩
  replace B0 : Hid (Below w.heap.size w V1) := by show Below _ _ _; rw [hV]; exact B0.out
  replace J0 : Hid (IHolds V1 (w.heap.size + 1) 27 [.slice none 0 0, .slice none 0 0, .slice none 0 0, .slice none 0 0, .string ⟨#[]⟩, .string ⟨#[]⟩, .int .i64 0]) := by show IHolds _ _ _ _; rw [hV]; exact J0.out
  replace J1 : Hid (IHolds V1 w.heap.size 24 [.string n, .string d]) := by show IHolds _ _ _ _; rw [hV]; exact J1.out
  clear hV
  go_wp2_with (go_at_call 8; refine (C8.out _ B0.out).mono ?_)
  rintro e V2 ⟨rfl, hV⟩
  replace B0 : Hid (Below w.heap.size w V2) := by show Below _ _ _; rw [hV]; exact B0.out
  replace J0 : Hid (IHolds V2 (w.heap.size + 1) 27 [.slice none 0 0, .slice none 0 0, .slice none 0 0, .slice none 0 0, .string ⟨#[]⟩, .string ⟨#[]⟩, .int .i64 0]) := by show IHolds _ _ _ _; rw [hV]; exact J0.out
  replace J1 : Hid (IHolds V2 w.heap.size 24 [.string n, .string d]) := by show IHolds _ _ _ _; rw [hV]; exact J1.out
  clear hV
  obtain ⟨r0, r1⟩ := cJ J1
  go_wp2_with (go_at_call 10; refine (C10.out _).mono ?_)
  rintro e V3 ⟨⟨u1, u2, rfl, g1, g2⟩, hb⟩
  obtain ⟨x1, L1, k1, rfl⟩ : ∃ a L c, u1 = .slice a L c := by obtain ⟨a, cap, h, _⟩ := g1; exact ⟨_, _, _, h⟩
  obtain ⟨x2, L2, k2, rfl⟩ : ∃ a L c, u2 = .slice a L c := by obtain ⟨a, cap, h, _⟩ := g2; exact ⟨_, _, _, h⟩
  clear r0 r1 g1 g2
  replace B0 := aB B0 hb
  replace J0 := aJ J0 hb
  replace J1 := aJ J1 hb
  clear hb
  go_upto_region 6 with fail
  have hb := nB V3 (.cells #[.slice x1 L1 k1, .slice x2 L2 k2] 39)
  replace B0 := aB B0 hb
  replace J0 := aJ J0 hb
  replace J1 := aJ J1 hb
  clear hb
  generalize (V3.alloc (.cells #[.slice x1 L1 k1, .slice x2 L2 k2] 39)) = V4 at *
  go_wp2_with (go_at_call 11; refine (C11.out _ B0.out).mono ?_)
  rintro e V5 ⟨rfl, hb⟩
  replace B0 := aB B0 hb
  replace J0 := aJ J0 hb
  replace J1 := aJ J1 hb
  clear hb
  obtain ⟨e0, e1, e2, e3, e4, e5, e6⟩ := seven (W := V5) (b := w.heap.size + 1) (t := 27) J0.out
  have f0 : ∀ i, V5.frozen? ⟨w.heap.size + 1, i, none⟩ = false := fun i => IHolds.frozen (w := V5) (b := w.heap.size + 1) (t := 27) (l := [.slice none 0 0, .slice none 0 0, .slice none 0 0, .slice none 0 0, .string ⟨#[]⟩, .string ⟨#[]⟩, .int .i64 0]) J0.out i
  obtain ⟨I7, L7⟩ := zero27 (w := w) (W := V5) J0.out B0.out
  have I7' : Hid _ := I7
  have L7' : Hid _ := L7
  clear I7 L7 J0 B0
  go_wp2_with fail
  clear e0 e1 e2 e3 e4 e5 e6 f0
  generalize (((((((V5.setCell ⟨w.heap.size + 1, 0, none⟩ (.slice none 0 0)).setCell ⟨w.heap.size + 1, 1, none⟩ (.slice none 0 0)).setCell ⟨w.heap.size + 1, 2, none⟩ (.slice none 0 0)).setCell ⟨w.heap.size + 1, 3, none⟩ (.slice none 0 0)).setCell ⟨w.heap.size + 1, 4, none⟩ (.string ⟨#[]⟩)).setCell ⟨w.heap.size + 1, 5, none⟩ (.string ⟨#[]⟩)).setCell ⟨w.heap.size + 1, 6, none⟩ (.int .i64 0)) = X at *
  obtain ⟨E0, E1, E2, E3, E4, E5, E6⟩ := seven (W := X) (b := w.heap.size + 1) (t := 27) I7'.out
  exact bodyPost_ret (v := .tuple #[.agg #[.slice none 0 0, .slice none 0 0, .slice none 0 0, .slice none 0 0, .string ⟨#[]⟩, .string ⟨#[]⟩, .int .i64 0], .int .i64 14]) (by simp [results, Tryd.results4, go_sem, E0, E1, E2, E3, E4, E5, E6]) rfl ⟨rfl, L7'.out⟩
set_option maxHeartbeats 8000000 in
theorem begin4_ok {w : World} {ct cw : Nat} {at_ aw : Option Addr} {t ws : List Int} {n d : ByteArray} (ht : IL w at_ t) (hw : IL w aw ws) (htn : t.length < 9223372036854775808) (hwc : ws.length ≤ cw) (hcw : cw < 9223372036854775808) (h1 : msB t.length ws = false) (h2 : t.any ntB = false) (h3 : rkC n d = 0) (h4 : tieB t ws = false) :
    Calls Tryd.prog 4 #[.slice at_ t.length ct, .slice aw ws.length cw, .agg #[.string n, .string d]] w fun e w' => (∃ v1 v2 v3 v4, e = .returned (.tuple #[.agg #[v1, v2, v3, v4, .string n, .string d, .int .i64 0], .int .i64 0]) ∧ WT w' v1 v2 v3 v4 (rW1 (loL ws t.length) ws) (rW2 (loL ws t.length) ws) (rW3 t (loL ws t.length) ws) (rW4 (loL ws t.length) ws)) ∧ Below w.heap.size w w' := by
  have B0 : Hid (Below w.heap.size w ((w.alloc (.cells #[.string n, .string d] 24)).alloc (.cells #[.slice none 0 0, .slice none 0 0, .slice none 0 0, .slice none 0 0, .string ⟨#[]⟩, .string ⟨#[]⟩, .int .i64 0] 27))) := ((Below.refl _ w).alloc (Nat.le_refl _) _).alloc (by simp only [World.size_alloc]; omega) _
  have J0 : Hid (IHolds ((w.alloc (.cells #[.string n, .string d] 24)).alloc (.cells #[.slice none 0 0, .slice none 0 0, .slice none 0 0, .slice none 0 0, .string ⟨#[]⟩, .string ⟨#[]⟩, .int .i64 0] 27)) (w.heap.size + 1) 27 [.slice none 0 0, .slice none 0 0, .slice none 0 0, .slice none 0 0, .string ⟨#[]⟩, .string ⟨#[]⟩, .int .i64 0]) := by
    have q := IHolds.new (w.alloc (.cells #[.string n, .string d] 24)) 27 [.slice none 0 0, .slice none 0 0, .slice none 0 0, .slice none 0 0, .string ⟨#[]⟩, .string ⟨#[]⟩, .int .i64 0]
    simp only [World.size_alloc] at q
    exact q
  have C7 : Hid (∀ V, Below w.heap.size w V → Calls Tryd.prog 7 #[.slice at_ t.length ct, .slice aw ws.length cw] V fun e w' => e = .returned (.bool false) ∧ w' = V) := fun V hV => by
    have q := misplaced7 (at' := at_) (ct := ct) (hw.of_below hV) hwc (by omega) (show t.length ≤ 9223372036854775807 by omega)
    rw [h1] at q
    exact q
  have C8 : Hid (∀ V, Below w.heap.size w V → Calls Tryd.prog 8 #[.slice at_ t.length ct, .func (.func 9) #[] #[]] V fun e w' => e = .returned (.bool false) ∧ w' = V) := fun V hV => by
    have q := containsF8 (c := ct) (ht.of_below hV) htn
    rw [h2] at q
    exact q
  have C10 : Hid (∀ V, Calls Tryd.prog 10 #[.agg #[.string n, .string d]] V fun e w' => (∃ u1 u2, e = .returned (.tuple #[.agg #[u1, u2], .int .i64 0]) ∧ NumV w' 1000000000 (bv n.data.toList) u1 ∧ NumV w' 1000000000 (bv d.data.toList) u2) ∧ Below V.heap.size V w') := fun V => risk10_ok n d V h3
  have MN := ms_no h1
  have C11 : Hid (∀ V, Below w.heap.size w V → Calls Tryd.prog 11 #[.slice at_ t.length ct, .slice aw ws.length cw] V fun e w' => e = .returned (.bool false) ∧ Below V.heap.size V w') := fun V hV => by
    have q := tied11 (ct := ct) (c := cw) (ht.of_below hV) (hw.of_below hV) (by omega) (by omega) MN.2.2.2.2
    rw [h4] at q
    exact q
  have C12 : Hid (∀ V, Below w.heap.size w V → Calls Tryd.prog 12 #[.slice at_ t.length ct, .slice aw ws.length cw, .agg #[.string n, .string d]] V fun e w' => (∃ v1 v2 v3 v4, e = .returned (.agg #[v1, v2, v3, v4, .string n, .string d, .int .i64 0]) ∧ WT w' v1 v2 v3 v4 (rW1 (loL ws t.length) ws) (rW2 (loL ws t.length) ws) (rW3 t (loL ws t.length) ws) (rW4 (loL ws t.length) ws)) ∧ Below V.heap.size V w') := fun V hV => begun12 (ht.of_below hV) (hw.of_below hV) (nt_no h2) (by omega) (by omega) MN.2.2.2.2 (tie_no (nt_no h2) h4)
  clear ht hw htn hwc hcw
  clear h1 h2 h3 h4 MN
  have J1 : Hid (IHolds ((w.alloc (.cells #[.string n, .string d] 24)).alloc (.cells #[.slice none 0 0, .slice none 0 0, .slice none 0 0, .slice none 0 0, .string ⟨#[]⟩, .string ⟨#[]⟩, .int .i64 0] 27)) w.heap.size 24 [.string n, .string d]) := by
    have q := IHolds.new w 24 [.string n, .string d]
    exact q.alloc _
  go_enter Tryd.func4, Tryd.ntmps4
  go_wp2_with (go_at_call 7; refine (C7.out _ B0.out).mono ?_)
  rintro e V1 ⟨rfl, hV⟩
  replace B0 : Hid (Below w.heap.size w V1) := by show Below _ _ _; rw [hV]; exact B0.out
  replace J0 : Hid (IHolds V1 (w.heap.size + 1) 27 [.slice none 0 0, .slice none 0 0, .slice none 0 0, .slice none 0 0, .string ⟨#[]⟩, .string ⟨#[]⟩, .int .i64 0]) := by show IHolds _ _ _ _; rw [hV]; exact J0.out
  replace J1 : Hid (IHolds V1 w.heap.size 24 [.string n, .string d]) := by show IHolds _ _ _ _; rw [hV]; exact J1.out
  clear hV
  go_wp2_with (go_at_call 8; refine (C8.out _ B0.out).mono ?_)
  rintro e V2 ⟨rfl, hV⟩
  replace B0 : Hid (Below w.heap.size w V2) := by show Below _ _ _; rw [hV]; exact B0.out
  replace J0 : Hid (IHolds V2 (w.heap.size + 1) 27 [.slice none 0 0, .slice none 0 0, .slice none 0 0, .slice none 0 0, .string ⟨#[]⟩, .string ⟨#[]⟩, .int .i64 0]) := by show IHolds _ _ _ _; rw [hV]; exact J0.out
  replace J1 : Hid (IHolds V2 w.heap.size 24 [.string n, .string d]) := by show IHolds _ _ _ _; rw [hV]; exact J1.out
  clear hV
  obtain ⟨r0, r1⟩ := cJ J1
  go_wp2_with (go_at_call 10; refine (C10.out _).mono ?_)
  rintro e V3 ⟨⟨u1, u2, rfl, g1, g2⟩, hb⟩
  obtain ⟨x1, L1, k1, rfl⟩ : ∃ a L c, u1 = .slice a L c := by obtain ⟨a, cap, h, _⟩ := g1; exact ⟨_, _, _, h⟩
  obtain ⟨x2, L2, k2, rfl⟩ : ∃ a L c, u2 = .slice a L c := by obtain ⟨a, cap, h, _⟩ := g2; exact ⟨_, _, _, h⟩
  clear r0 r1 g1 g2
  replace B0 := aB B0 hb
  replace J0 := aJ J0 hb
  replace J1 := aJ J1 hb
  clear hb
  go_upto_region 6 with fail
  have hb := nB V3 (.cells #[.slice x1 L1 k1, .slice x2 L2 k2] 39)
  replace B0 := aB B0 hb
  replace J0 := aJ J0 hb
  replace J1 := aJ J1 hb
  clear hb
  generalize (V3.alloc (.cells #[.slice x1 L1 k1, .slice x2 L2 k2] 39)) = V4 at *
  go_wp2_with (go_at_call 11; refine (C11.out _ B0.out).mono ?_)
  rintro e V5 ⟨rfl, hb⟩
  replace B0 := aB B0 hb
  replace J0 := aJ J0 hb
  replace J1 := aJ J1 hb
  clear hb
  obtain ⟨r0, r1⟩ := cJ J1
  go_wp2_with (go_at_call 12; refine (C12.out _ B0.out).mono ?_)
  rintro e V6 ⟨⟨v1, v2, v3, v4, rfl, hwt⟩, hb⟩
  clear r0 r1
  replace B0 := aB B0 hb
  replace J0 := aJ J0 hb
  replace J1 := aJ J1 hb
  clear hb
  obtain ⟨⟨p1, o1⟩, ⟨p2, o2⟩, ⟨p3, o3⟩, ⟨p4, o4⟩⟩ := hwt
  obtain ⟨s1, k1, h1, rfl⟩ := own_slice o1
  obtain ⟨s2, k2, h2, rfl⟩ := own_slice o2
  obtain ⟨s3, k3, h3, rfl⟩ := own_slice o3
  obtain ⟨s4, k4, h4, rfl⟩ := own_slice o4
  obtain ⟨e0, e1, e2, e3, e4, e5, e6⟩ := seven (W := V6) (b := w.heap.size + 1) (t := 27) J0.out
  have f0 : ∀ i, V6.frozen? ⟨w.heap.size + 1, i, none⟩ = false := fun i => IHolds.frozen (w := V6) (b := w.heap.size + 1) (t := 27) (l := [.slice none 0 0, .slice none 0 0, .slice none 0 0, .slice none 0 0, .string ⟨#[]⟩, .string ⟨#[]⟩, .int .i64 0]) J0.out i
  obtain ⟨I7, B7, L7⟩ := set7 (w := w) (W := V6) (y1 := .slice s1 k1 h1) (y2 := .slice s2 k2 h2) (y3 := .slice s3 k3 h3) (y4 := .slice s4 k4 h4) (y5 := .string n) (y6 := .string d) (y7 := .int .i64 0) J0.out B0.out (show w.heap.size ≤ w.heap.size + 1 by omega)
  have KO : ∀ {v : Value} {e s k p : Nat} {xs : List Value}, V6.ownsRow p e s v k xs → 27 ≠ e → World.ownsRow _ p e s v k xs := fun ho hne => own_of_block ho (fun g hx => B7.block g (ho.lt _ hx).2 (fun q => own_ne_cells ho J0.out hne (by rw [hx, q])))
  have R1 : Hid (WT _ (.slice s1 k1 h1) (.slice s2 k2 h2) (.slice s3 k3 h3) (.slice s4 k4 h4) (rW1 (loL ws t.length) ws) (rW2 (loL ws t.length) ws) (rW3 t (loL ws t.length) ws) (rW4 (loL ws t.length) ws)) := ⟨⟨_, KO o1 (by decide)⟩, ⟨_, KO o2 (by decide)⟩, ⟨_, KO o3 (by decide)⟩, ⟨_, KO o4 (by decide)⟩⟩
  have I7' : Hid _ := I7
  have L7' : Hid _ := L7
  clear I7 B7 L7 KO J0 J1 B0 o1 o2 o3 o4
  go_wp2_with fail
  clear e0 e1 e2 e3 e4 e5 e6 f0
  generalize (((((((V6.setCell ⟨w.heap.size + 1, 0, none⟩ (.slice s1 k1 h1)).setCell ⟨w.heap.size + 1, 1, none⟩ (.slice s2 k2 h2)).setCell ⟨w.heap.size + 1, 2, none⟩ (.slice s3 k3 h3)).setCell ⟨w.heap.size + 1, 3, none⟩ (.slice s4 k4 h4)).setCell ⟨w.heap.size + 1, 4, none⟩ (.string n)).setCell ⟨w.heap.size + 1, 5, none⟩ (.string d)).setCell ⟨w.heap.size + 1, 6, none⟩ (.int .i64 0)) = X at *
  obtain ⟨E0, E1, E2, E3, E4, E5, E6⟩ := seven (W := X) (b := w.heap.size + 1) (t := 27) I7'.out
  exact bodyPost_ret (v := .tuple #[.agg #[.slice s1 k1 h1, .slice s2 k2 h2, .slice s3 k3 h3, .slice s4 k4 h4, .string n, .string d, .int .i64 0], .int .i64 0]) (by simp [results, Tryd.results4, go_sem, E0, E1, E2, E3, E4, E5, E6]) rfl ⟨⟨_, _, _, _, rfl, R1.out⟩, L7'.out⟩
end Go.Proofs.YtflabehlaiocaaaDoor
