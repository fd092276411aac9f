/- The document: Begin. -/
import Derived.Test.YtflabehlaiocaaaDoorHa
set_option linter.unusedSimpArgs false
set_option linter.unusedVariables false
set_option maxRecDepth 100000
namespace Go.Proofs.YtflabehlaiocaaaDoor
open Go.RowKit Go.Deep Go.PlainAid

/-- What is answered. -/
def BA (t ws : List Int) (n d : ByteArray) (e : Ending) (w' : World) : Prop :=
  (beC t ws n d ≠ 0 ∧ e = .returned (.tuple #[.agg #[.slice none 0 0, .slice none 0 0, .slice none 0 0, .slice none 0 0, .string ⟨#[]⟩, .string ⟨#[]⟩, .int .i64 0], .int .i64 (beC t ws n d)])) ∨
  (beC t ws n d = 0 ∧ ∃ v1 v2 v3 v4, e = .returned (.tuple #[.agg #[v1, v2, v3, v4, .string n, .string d, .int .i64 0], .int .i64 0]) ∧ WT w' v1 v2 v3 v4 (rW1 (loL ws t.length) ws) (rW2 (loL ws t.length) ws) (rW3 t (loL ws t.length) ws) (rW4 (loL ws t.length) ws))
theorem tie_yes {t ws : List Int} (hr : ∀ x ∈ t, 0 ≤ x ∧ x ≤ 1048576) (h : ¬ ∀ i ∈ ws, ∀ x ∈ loL ws t.length, tot t x < tot t i) : tieB t ws = true := by
  cases hb : tieB t ws with
  | true => rfl
  | false => exact absurd (tie_no hr hb) h
theorem tie_not {t ws : List Int} (hr : ∀ x ∈ t, 0 ≤ x ∧ x ≤ 1048576) (h : ∀ i ∈ ws, ∀ x ∈ loL ws t.length, tot t x < tot t i) : tieB t ws = false := by
  unfold tieB
  rw [List.any_eq_false]
  intro x hx
  rw [Bool.not_eq_true, List.any_eq_false]
  intro i hi
  have q := h i hi x hx
  unfold tot at q
  have := getD_nn hr x.toNat
  have := getD_nn hr i.toNat
  simp only [tiB, decide_eq_true_eq]
  omega
theorem ms_size {N : Nat} {l : List Int} (h : N < 2 ∨ 12 < N ∨ l.length < 1 ∨ N ≤ l.length) : msB N l = true := by
  unfold msB wiB
  simp only [Bool.or_eq_true, Bool.not_eq_true', Bool.and_eq_false_iff, decide_eq_false_iff_not]
  rcases h with h | h | h | h
  · exact Or.inl (Or.inl (by omega))
  · exact Or.inl (Or.inr (by omega))
  · exact Or.inr (Or.inl (Or.inl (by omega)))
  · exact Or.inr (Or.inl (Or.inr (by omega)))
theorem ms_else {N : Nat} {l : List Int} (h2 : 2 ≤ N) (h12 : N ≤ 12) (h1 : 1 ≤ l.length) (hl : l.length < N) : msB N l = (List.range l.length).any (wrB N l) := by
  unfold msB
  have e1 : wiB (N : Int) 2 12 = true := by unfold wiB; simp; omega
  have e2 : wiB (l.length : Int) 1 ((N : Int) - 1) = true := by unfold wiB; simp; omega
  rw [e1, e2]; rfl
set_option maxHeartbeats 8000000 in
theorem begin5_size0 {w : World} {ct cw : Nat} {at_ aw : Option Addr} {t ws : List Int} {n d : ByteArray} (h : t.length < 2) :
    Calls Tryd.prog 5 #[.slice at_ t.length ct, .slice aw ws.length cw, .agg #[.string n, .string d]] w fun e w' => e = .returned (.tuple #[.agg #[.slice none 0 0, .slice none 0 0, .slice none 0 0, .slice none 0 0, .string ⟨#[]⟩, .string ⟨#[]⟩, .int .i64 0], .int .i64 2]) ∧ Below w.heap.size w w' := by
  have B0 : Hid (Below w.heap.size w ((w.alloc (.cells #[.string n, .string d] 24)).alloc (.cells #[.slice none 0 0, .slice none 0 0, .slice none 0 0, .slice none 0 0, .string ⟨#[]⟩, .string ⟨#[]⟩, .int .i64 0] 27))) := ((Below.refl _ w).alloc (Nat.le_refl _) _).alloc (by simp only [World.size_alloc]; omega) _
  have J0 : Hid (IHolds ((w.alloc (.cells #[.string n, .string d] 24)).alloc (.cells #[.slice none 0 0, .slice none 0 0, .slice none 0 0, .slice none 0 0, .string ⟨#[]⟩, .string ⟨#[]⟩, .int .i64 0] 27)) (w.heap.size + 1) 27 [.slice none 0 0, .slice none 0 0, .slice none 0 0, .slice none 0 0, .string ⟨#[]⟩, .string ⟨#[]⟩, .int .i64 0]) := by
    have q := IHolds.new (w.alloc (.cells #[.string n, .string d] 24)) 27 [.slice none 0 0, .slice none 0 0, .slice none 0 0, .slice none 0 0, .string ⟨#[]⟩, .string ⟨#[]⟩, .int .i64 0]
    simp only [World.size_alloc] at q
    exact q
  have X0 : Hid (IHolds ((w.alloc (.cells #[.string n, .string d] 24)).alloc (.cells #[.slice none 0 0, .slice none 0 0, .slice none 0 0, .slice none 0 0, .string ⟨#[]⟩, .string ⟨#[]⟩, .int .i64 0] 27)) w.heap.size 24 [.string n, .string d]) := by
    have q := IHolds.new w 24 [.string n, .string d]
    exact q.alloc _
  have HTR : Hid (w.heap.size ≤ w.heap.size + 1) := (by omega : w.heap.size ≤ w.heap.size + 1)
  have h1 : (t.length : Int) < 2 := by omega
  clear h X0 HTR
  go_enter Tryd.func5, Tryd.ntmps5
  go_upto_region 2 with fail
  generalize ((w.alloc (.cells #[.string n, .string d] 24)).alloc (.cells #[.slice none 0 0, .slice none 0 0, .slice none 0 0, .slice none 0 0, .string ⟨#[]⟩, .string ⟨#[]⟩, .int .i64 0] 27)) = V0 at *
  obtain ⟨e0, e1, e2, e3, e4, e5, e6⟩ := seven (W := V0) (b := w.heap.size + 1) (t := 27) J0.out
  have f0 : ∀ i, V0.frozen? ⟨w.heap.size + 1, i, none⟩ = false := fun i => IHolds.frozen (w := V0) (b := w.heap.size + 1) (t := 27) (l := [.slice none 0 0, .slice none 0 0, .slice none 0 0, .slice none 0 0, .string ⟨#[]⟩, .string ⟨#[]⟩, .int .i64 0]) J0.out i
  obtain ⟨I7, L7⟩ := zero27 (w := w) (W := V0) J0.out B0.out
  have I7' : Hid _ := I7
  have L7' : Hid _ := L7
  clear I7 L7 J0 B0
  go_wp2_with fail
  clear e0 e1 e2 e3 e4 e5 e6 f0
  generalize (((((((V0.setCell ⟨w.heap.size + 1, 0, none⟩ (.slice none 0 0)).setCell ⟨w.heap.size + 1, 1, none⟩ (.slice none 0 0)).setCell ⟨w.heap.size + 1, 2, none⟩ (.slice none 0 0)).setCell ⟨w.heap.size + 1, 3, none⟩ (.slice none 0 0)).setCell ⟨w.heap.size + 1, 4, none⟩ (.string ⟨#[]⟩)).setCell ⟨w.heap.size + 1, 5, none⟩ (.string ⟨#[]⟩)).setCell ⟨w.heap.size + 1, 6, none⟩ (.int .i64 0)) = X at *
  obtain ⟨E0, E1, E2, E3, E4, E5, E6⟩ := seven (W := X) (b := w.heap.size + 1) (t := 27) I7'.out
  exact bodyPost_ret (v := .tuple #[.agg #[.slice none 0 0, .slice none 0 0, .slice none 0 0, .slice none 0 0, .string ⟨#[]⟩, .string ⟨#[]⟩, .int .i64 0], .int .i64 2]) (by simp [results, Tryd.results5, go_sem, E0, E1, E2, E3, E4, E5, E6]) rfl ⟨rfl, L7'.out⟩
set_option maxHeartbeats 8000000 in
theorem begin5_size1 {w : World} {ct cw : Nat} {at_ aw : Option Addr} {t ws : List Int} {n d : ByteArray} (h : 12 < t.length) :
    Calls Tryd.prog 5 #[.slice at_ t.length ct, .slice aw ws.length cw, .agg #[.string n, .string d]] w fun e w' => e = .returned (.tuple #[.agg #[.slice none 0 0, .slice none 0 0, .slice none 0 0, .slice none 0 0, .string ⟨#[]⟩, .string ⟨#[]⟩, .int .i64 0], .int .i64 2]) ∧ Below w.heap.size w w' := by
  have B0 : Hid (Below w.heap.size w ((w.alloc (.cells #[.string n, .string d] 24)).alloc (.cells #[.slice none 0 0, .slice none 0 0, .slice none 0 0, .slice none 0 0, .string ⟨#[]⟩, .string ⟨#[]⟩, .int .i64 0] 27))) := ((Below.refl _ w).alloc (Nat.le_refl _) _).alloc (by simp only [World.size_alloc]; omega) _
  have J0 : Hid (IHolds ((w.alloc (.cells #[.string n, .string d] 24)).alloc (.cells #[.slice none 0 0, .slice none 0 0, .slice none 0 0, .slice none 0 0, .string ⟨#[]⟩, .string ⟨#[]⟩, .int .i64 0] 27)) (w.heap.size + 1) 27 [.slice none 0 0, .slice none 0 0, .slice none 0 0, .slice none 0 0, .string ⟨#[]⟩, .string ⟨#[]⟩, .int .i64 0]) := by
    have q := IHolds.new (w.alloc (.cells #[.string n, .string d] 24)) 27 [.slice none 0 0, .slice none 0 0, .slice none 0 0, .slice none 0 0, .string ⟨#[]⟩, .string ⟨#[]⟩, .int .i64 0]
    simp only [World.size_alloc] at q
    exact q
  have X0 : Hid (IHolds ((w.alloc (.cells #[.string n, .string d] 24)).alloc (.cells #[.slice none 0 0, .slice none 0 0, .slice none 0 0, .slice none 0 0, .string ⟨#[]⟩, .string ⟨#[]⟩, .int .i64 0] 27)) w.heap.size 24 [.string n, .string d]) := by
    have q := IHolds.new w 24 [.string n, .string d]
    exact q.alloc _
  have HTR : Hid (w.heap.size ≤ w.heap.size + 1) := (by omega : w.heap.size ≤ w.heap.size + 1)
  have h1 : ¬ (t.length : Int) < 2 := by omega
  have h2 : (12 : Int) < (t.length : Int) := by omega
  clear h X0 HTR
  go_enter Tryd.func5, Tryd.ntmps5
  go_upto_region 2 with fail
  generalize ((w.alloc (.cells #[.string n, .string d] 24)).alloc (.cells #[.slice none 0 0, .slice none 0 0, .slice none 0 0, .slice none 0 0, .string ⟨#[]⟩, .string ⟨#[]⟩, .int .i64 0] 27)) = V0 at *
  obtain ⟨e0, e1, e2, e3, e4, e5, e6⟩ := seven (W := V0) (b := w.heap.size + 1) (t := 27) J0.out
  have f0 : ∀ i, V0.frozen? ⟨w.heap.size + 1, i, none⟩ = false := fun i => IHolds.frozen (w := V0) (b := w.heap.size + 1) (t := 27) (l := [.slice none 0 0, .slice none 0 0, .slice none 0 0, .slice none 0 0, .string ⟨#[]⟩, .string ⟨#[]⟩, .int .i64 0]) J0.out i
  obtain ⟨I7, L7⟩ := zero27 (w := w) (W := V0) J0.out B0.out
  have I7' : Hid _ := I7
  have L7' : Hid _ := L7
  clear I7 L7 J0 B0
  go_wp2_with fail
  clear e0 e1 e2 e3 e4 e5 e6 f0
  generalize (((((((V0.setCell ⟨w.heap.size + 1, 0, none⟩ (.slice none 0 0)).setCell ⟨w.heap.size + 1, 1, none⟩ (.slice none 0 0)).setCell ⟨w.heap.size + 1, 2, none⟩ (.slice none 0 0)).setCell ⟨w.heap.size + 1, 3, none⟩ (.slice none 0 0)).setCell ⟨w.heap.size + 1, 4, none⟩ (.string ⟨#[]⟩)).setCell ⟨w.heap.size + 1, 5, none⟩ (.string ⟨#[]⟩)).setCell ⟨w.heap.size + 1, 6, none⟩ (.int .i64 0)) = X at *
  obtain ⟨E0, E1, E2, E3, E4, E5, E6⟩ := seven (W := X) (b := w.heap.size + 1) (t := 27) I7'.out
  exact bodyPost_ret (v := .tuple #[.agg #[.slice none 0 0, .slice none 0 0, .slice none 0 0, .slice none 0 0, .string ⟨#[]⟩, .string ⟨#[]⟩, .int .i64 0], .int .i64 2]) (by simp [results, Tryd.results5, go_sem, E0, E1, E2, E3, E4, E5, E6]) rfl ⟨rfl, L7'.out⟩
set_option maxHeartbeats 8000000 in
theorem begin5_size2 {w : World} {ct cw : Nat} {at_ aw : Option Addr} {t ws : List Int} {n d : ByteArray} (h0 : 2 ≤ t.length ∧ t.length ≤ 12) (h : ws.length < 1) :
    Calls Tryd.prog 5 #[.slice at_ t.length ct, .slice aw ws.length cw, .agg #[.string n, .string d]] w fun e w' => e = .returned (.tuple #[.agg #[.slice none 0 0, .slice none 0 0, .slice none 0 0, .slice none 0 0, .string ⟨#[]⟩, .string ⟨#[]⟩, .int .i64 0], .int .i64 2]) ∧ Below w.heap.size w w' := by
  have B0 : Hid (Below w.heap.size w ((w.alloc (.cells #[.string n, .string d] 24)).alloc (.cells #[.slice none 0 0, .slice none 0 0, .slice none 0 0, .slice none 0 0, .string ⟨#[]⟩, .string ⟨#[]⟩, .int .i64 0] 27))) := ((Below.refl _ w).alloc (Nat.le_refl _) _).alloc (by simp only [World.size_alloc]; omega) _
  have J0 : Hid (IHolds ((w.alloc (.cells #[.string n, .string d] 24)).alloc (.cells #[.slice none 0 0, .slice none 0 0, .slice none 0 0, .slice none 0 0, .string ⟨#[]⟩, .string ⟨#[]⟩, .int .i64 0] 27)) (w.heap.size + 1) 27 [.slice none 0 0, .slice none 0 0, .slice none 0 0, .slice none 0 0, .string ⟨#[]⟩, .string ⟨#[]⟩, .int .i64 0]) := by
    have q := IHolds.new (w.alloc (.cells #[.string n, .string d] 24)) 27 [.slice none 0 0, .slice none 0 0, .slice none 0 0, .slice none 0 0, .string ⟨#[]⟩, .string ⟨#[]⟩, .int .i64 0]
    simp only [World.size_alloc] at q
    exact q
  have X0 : Hid (IHolds ((w.alloc (.cells #[.string n, .string d] 24)).alloc (.cells #[.slice none 0 0, .slice none 0 0, .slice none 0 0, .slice none 0 0, .string ⟨#[]⟩, .string ⟨#[]⟩, .int .i64 0] 27)) w.heap.size 24 [.string n, .string d]) := by
    have q := IHolds.new w 24 [.string n, .string d]
    exact q.alloc _
  have HTR : Hid (w.heap.size ≤ w.heap.size + 1) := (by omega : w.heap.size ≤ w.heap.size + 1)
  have h1 : ¬ (t.length : Int) < 2 := by omega
  have h2 : ¬ (12 : Int) < (t.length : Int) := by omega
  have h3 : (ws.length : Int) < 1 := by omega
  clear h0 h X0 HTR
  go_enter Tryd.func5, Tryd.ntmps5
  go_upto_region 2 with fail
  generalize ((w.alloc (.cells #[.string n, .string d] 24)).alloc (.cells #[.slice none 0 0, .slice none 0 0, .slice none 0 0, .slice none 0 0, .string ⟨#[]⟩, .string ⟨#[]⟩, .int .i64 0] 27)) = V0 at *
  obtain ⟨e0, e1, e2, e3, e4, e5, e6⟩ := seven (W := V0) (b := w.heap.size + 1) (t := 27) J0.out
  have f0 : ∀ i, V0.frozen? ⟨w.heap.size + 1, i, none⟩ = false := fun i => IHolds.frozen (w := V0) (b := w.heap.size + 1) (t := 27) (l := [.slice none 0 0, .slice none 0 0, .slice none 0 0, .slice none 0 0, .string ⟨#[]⟩, .string ⟨#[]⟩, .int .i64 0]) J0.out i
  obtain ⟨I7, L7⟩ := zero27 (w := w) (W := V0) J0.out B0.out
  have I7' : Hid _ := I7
  have L7' : Hid _ := L7
  clear I7 L7 J0 B0
  go_wp2_with fail
  clear e0 e1 e2 e3 e4 e5 e6 f0
  generalize (((((((V0.setCell ⟨w.heap.size + 1, 0, none⟩ (.slice none 0 0)).setCell ⟨w.heap.size + 1, 1, none⟩ (.slice none 0 0)).setCell ⟨w.heap.size + 1, 2, none⟩ (.slice none 0 0)).setCell ⟨w.heap.size + 1, 3, none⟩ (.slice none 0 0)).setCell ⟨w.heap.size + 1, 4, none⟩ (.string ⟨#[]⟩)).setCell ⟨w.heap.size + 1, 5, none⟩ (.string ⟨#[]⟩)).setCell ⟨w.heap.size + 1, 6, none⟩ (.int .i64 0)) = X at *
  obtain ⟨E0, E1, E2, E3, E4, E5, E6⟩ := seven (W := X) (b := w.heap.size + 1) (t := 27) I7'.out
  exact bodyPost_ret (v := .tuple #[.agg #[.slice none 0 0, .slice none 0 0, .slice none 0 0, .slice none 0 0, .string ⟨#[]⟩, .string ⟨#[]⟩, .int .i64 0], .int .i64 2]) (by simp [results, Tryd.results5, go_sem, E0, E1, E2, E3, E4, E5, E6]) rfl ⟨rfl, L7'.out⟩
set_option maxHeartbeats 8000000 in
theorem begin5_size3 {w : World} {ct cw : Nat} {at_ aw : Option Addr} {t ws : List Int} {n d : ByteArray} (h0 : 2 ≤ t.length ∧ t.length ≤ 12 ∧ 1 ≤ ws.length) (h : t.length ≤ ws.length) :
    Calls Tryd.prog 5 #[.slice at_ t.length ct, .slice aw ws.length cw, .agg #[.string n, .string d]] w fun e w' => e = .returned (.tuple #[.agg #[.slice none 0 0, .slice none 0 0, .slice none 0 0, .slice none 0 0, .string ⟨#[]⟩, .string ⟨#[]⟩, .int .i64 0], .int .i64 2]) ∧ Below w.heap.size w w' := by
  have B0 : Hid (Below w.heap.size w ((w.alloc (.cells #[.string n, .string d] 24)).alloc (.cells #[.slice none 0 0, .slice none 0 0, .slice none 0 0, .slice none 0 0, .string ⟨#[]⟩, .string ⟨#[]⟩, .int .i64 0] 27))) := ((Below.refl _ w).alloc (Nat.le_refl _) _).alloc (by simp only [World.size_alloc]; omega) _
  have J0 : Hid (IHolds ((w.alloc (.cells #[.string n, .string d] 24)).alloc (.cells #[.slice none 0 0, .slice none 0 0, .slice none 0 0, .slice none 0 0, .string ⟨#[]⟩, .string ⟨#[]⟩, .int .i64 0] 27)) (w.heap.size + 1) 27 [.slice none 0 0, .slice none 0 0, .slice none 0 0, .slice none 0 0, .string ⟨#[]⟩, .string ⟨#[]⟩, .int .i64 0]) := by
    have q := IHolds.new (w.alloc (.cells #[.string n, .string d] 24)) 27 [.slice none 0 0, .slice none 0 0, .slice none 0 0, .slice none 0 0, .string ⟨#[]⟩, .string ⟨#[]⟩, .int .i64 0]
    simp only [World.size_alloc] at q
    exact q
  have X0 : Hid (IHolds ((w.alloc (.cells #[.string n, .string d] 24)).alloc (.cells #[.slice none 0 0, .slice none 0 0, .slice none 0 0, .slice none 0 0, .string ⟨#[]⟩, .string ⟨#[]⟩, .int .i64 0] 27)) w.heap.size 24 [.string n, .string d]) := by
    have q := IHolds.new w 24 [.string n, .string d]
    exact q.alloc _
  have HTR : Hid (w.heap.size ≤ w.heap.size + 1) := (by omega : w.heap.size ≤ w.heap.size + 1)
  have h1 : ¬ (t.length : Int) < 2 := by omega
  have h2 : ¬ (12 : Int) < (t.length : Int) := by omega
  have h3 : ¬ (ws.length : Int) < 1 := by omega
  have h4 : (t.length : Int) ≤ (ws.length : Int) := by omega
  clear h0 h X0 HTR
  go_enter Tryd.func5, Tryd.ntmps5
  go_upto_region 2 with fail
  generalize ((w.alloc (.cells #[.string n, .string d] 24)).alloc (.cells #[.slice none 0 0, .slice none 0 0, .slice none 0 0, .slice none 0 0, .string ⟨#[]⟩, .string ⟨#[]⟩, .int .i64 0] 27)) = V0 at *
  obtain ⟨e0, e1, e2, e3, e4, e5, e6⟩ := seven (W := V0) (b := w.heap.size + 1) (t := 27) J0.out
  have f0 : ∀ i, V0.frozen? ⟨w.heap.size + 1, i, none⟩ = false := fun i => IHolds.frozen (w := V0) (b := w.heap.size + 1) (t := 27) (l := [.slice none 0 0, .slice none 0 0, .slice none 0 0, .slice none 0 0, .string ⟨#[]⟩, .string ⟨#[]⟩, .int .i64 0]) J0.out i
  obtain ⟨I7, L7⟩ := zero27 (w := w) (W := V0) J0.out B0.out
  have I7' : Hid _ := I7
  have L7' : Hid _ := L7
  clear I7 L7 J0 B0
  go_wp2_with fail
  clear e0 e1 e2 e3 e4 e5 e6 f0
  generalize (((((((V0.setCell ⟨w.heap.size + 1, 0, none⟩ (.slice none 0 0)).setCell ⟨w.heap.size + 1, 1, none⟩ (.slice none 0 0)).setCell ⟨w.heap.size + 1, 2, none⟩ (.slice none 0 0)).setCell ⟨w.heap.size + 1, 3, none⟩ (.slice none 0 0)).setCell ⟨w.heap.size + 1, 4, none⟩ (.string ⟨#[]⟩)).setCell ⟨w.heap.size + 1, 5, none⟩ (.string ⟨#[]⟩)).setCell ⟨w.heap.size + 1, 6, none⟩ (.int .i64 0)) = X at *
  obtain ⟨E0, E1, E2, E3, E4, E5, E6⟩ := seven (W := X) (b := w.heap.size + 1) (t := 27) I7'.out
  exact bodyPost_ret (v := .tuple #[.agg #[.slice none 0 0, .slice none 0 0, .slice none 0 0, .slice none 0 0, .string ⟨#[]⟩, .string ⟨#[]⟩, .int .i64 0], .int .i64 2]) (by simp [results, Tryd.results5, go_sem, E0, E1, E2, E3, E4, E5, E6]) rfl ⟨rfl, L7'.out⟩
end Go.Proofs.YtflabehlaiocaaaDoor
