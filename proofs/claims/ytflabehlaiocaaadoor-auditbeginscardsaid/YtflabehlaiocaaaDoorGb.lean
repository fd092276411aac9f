/- misplaced, losers. -/
import Derived.Test.YtflabehlaiocaaaDoorGa
import Derived.Deep.CutBlock
set_option linter.unusedSimpArgs false
set_option linter.unusedVariables false
set_option maxRecDepth 100000
namespace Go.Proofs.YtflabehlaiocaaaDoor
open Go.RowKit Go.Deep Go.PlainAid

/-- Is the winner at place i no place, or there before? -/
def wrB (N : Nat) (l : List Int) (i : Nat) : Bool := !wiB (l.getD i 0) 0 ((N : Int) - 1) || (l.take i).any fun y => l.getD i 0 == y
def msB (N : Nat) (l : List Int) : Bool := !wiB (N : Int) 2 12 || (!wiB (l.length : Int) 1 ((N : Int) - 1) || (List.range l.length).any (wrB N l))
theorem wrap_sub1 {N : Nat} (h : N ≤ 9223372036854775807) : wrap64 ((N : Int) - 1) = (N : Int) - 1 := by unfold wrap64; omega
set_option maxHeartbeats 4000000 in
theorem misplaced7 {l : List Int} {a at' : Option Addr} {c ct N : Nat} {w : World} (hl : IL w a l) (hc : l.length ≤ c) (hc9 : c ≤ 9223372036854775807) (hN : N ≤ 9223372036854775807) :
    Calls Tryd.prog 7 #[.slice at' N ct, .slice a l.length c] w fun e w' => e = .returned (.bool (msB N l)) ∧ w' = w := by
  have HW : Hid (wrap64 ((N : Int) - 1) = (N : Int) - 1) := wrap_sub1 hN
  have HI : Hid (IL w a l) := hl
  have H20 : Hid (∀ V n lo hi, Calls Tryd.prog 20 #[.int .i64 n, .int .i64 lo, .int .i64 hi] V fun e w' => e = .returned (.bool (wiB n lo hi)) ∧ w' = V) := fun V n lo hi => within20 n lo hi V
  have CC : Hid (l.length ≤ c ∧ c ≤ 9223372036854775807) := ⟨hc, hc9⟩
  have ln9 : l.length < 9223372036854775808 := by omega
  clear hl hc hc9 hN
  cases d1 : wiB (N : Int) 2 12 with
  | false =>
    have HZ : Hid (msB N l = true) := by show _ = _; unfold msB; rw [d1]; rfl
    have H1 : Hid (∀ V, Calls Tryd.prog 20 #[.int .i64 (N : Int), .int .i64 2, .int .i64 12] V fun e w' => e = .returned (.bool false) ∧ w' = V) := fun V => by rw [← d1]; exact H20.out V _ _ _
    clear H20 d1
    go_enter Tryd.func7, Tryd.ntmps7
    go_wp2_with (go_at_call 20; refine (H1.out _).mono ?_; rintro e w1 ⟨rfl, rfl⟩)
    go_ret
    exact ⟨by (rw [HZ.out]; rfl), rfl⟩
  | true =>
    have H1 : Hid (∀ V, Calls Tryd.prog 20 #[.int .i64 (N : Int), .int .i64 2, .int .i64 12] V fun e w' => e = .returned (.bool true) ∧ w' = V) := fun V => by rw [← d1]; exact H20.out V _ _ _
    cases d2 : wiB (l.length : Int) 1 ((N : Int) - 1) with
    | false =>
      have HZ : Hid (msB N l = true) := by show _ = _; unfold msB; rw [d1, d2]; rfl
      have H2 : Hid (∀ V, Calls Tryd.prog 20 #[.int .i64 (l.length : Int), .int .i64 1, .int .i64 (wrap64 ((N : Int) - 1))] V fun e w' => e = .returned (.bool false) ∧ w' = V) := fun V => by rw [← d2, HW.out]; exact H20.out V _ _ _
      clear H20 d1 d2
      go_enter Tryd.func7, Tryd.ntmps7
      go_wp2_with (go_at_call 20; refine (H1.out _).mono ?_)
      rintro e w1 ⟨rfl, rfl⟩
      clear H1
      go_wp2_with (go_at_call 20; refine (H2.out _).mono ?_)
      rintro e w1 ⟨rfl, rfl⟩
      clear H2
      go_wp2_with fail
      go_ret
      exact ⟨by (rw [HZ.out]; rfl), rfl⟩
    | true =>
      have HM : Hid (msB N l = (List.range l.length).any (wrB N l)) := by show _ = _; unfold msB; rw [d1, d2]; rfl
      have H2 : Hid (∀ V, Calls Tryd.prog 20 #[.int .i64 (l.length : Int), .int .i64 1, .int .i64 (wrap64 ((N : Int) - 1))] V fun e w' => e = .returned (.bool true) ∧ w' = V) := fun V => by rw [← d2, HW.out]; exact H20.out V _ _ _
      clear d1 d2
      go_enter Tryd.func7, Tryd.ntmps7
      go_wp2_with (go_at_call 20; refine (H1.out _).mono ?_)
      rintro e w1 ⟨rfl, rfl⟩
      clear H1
      go_wp2_with (go_at_call 20; refine (H2.out _).mono ?_)
      rintro e w1 ⟨rfl, rfl⟩
      clear H2
      go_wp2_with fail
      go_loopg [6, 7, 23] l.length (fun gk v6 v7 v23 wr => ∃ k : Nat, k + gk = l.length ∧ v23 = .int .i64 (k : Int) ∧ wr = w1 ∧ ∀ j (hj : j < k), wrB N l j = false)
      case atStart => exact ⟨0, by omega, rfl, rfl, fun j hj => by omega⟩
      case round =>
        obtain ⟨k, hk, rfl, rfl, hno⟩ := hrel
        have NO : Hid (∀ j (hj : j < k), wrB N l j = false) := hno
        clear hno
        by_cases hlt : k < l.length
        · have il : (k : Int) < (l.length : Int) := by omega
          obtain ⟨b, o, rfl, q⟩ := HI.out k hlt
          have kc : (k : Int) ≤ (c : Int) := by have := CC.out; omega
          have c0 : c ≠ 0 := by have := CC.out; omega
          have EX : Hid (wrB N l k = (!wiB l[k] 0 ((N : Int) - 1) || (l.take k).any fun y => l[k] == y)) := by
            show _ = _
            have e : l.getD k 0 = l[k] := by simp [hlt]
            unfold wrB
            rw [e]
          have HX : Hid (wrB N l k = true → msB N l = true) := fun h => by rw [HM.out]; exact List.any_eq_true.2 ⟨k, List.mem_range.2 hlt, h⟩
          have HY : Hid (wrB N l k = false → ∀ j (hj : j < k + 1), wrB N l j = false) := fun h j hj => by
            by_cases e : j = k
            · subst e; exact h
            · exact NO.out j (by omega)
          have H21 : Hid (∀ V x, V = wr → Calls Tryd.prog 21 #[.slice (some ⟨b, o, none⟩) k c, .int .i64 x] V fun e w' => e = .returned (.bool ((l.take k).any fun y => x == y)) ∧ w' = V) := fun V x hV => by
            subst hV
            have h := contains21 (x := x) (c := c) (HI.out.take k) (by simp; omega)
            have e : (l.take k).length = k := by simp; omega
            rw [e] at h
            exact h
          generalize l[k] = x at *
          cases d3 : wiB x 0 ((N : Int) - 1) with
          | false =>
            have H3 : Hid (∀ V, Calls Tryd.prog 20 #[.int .i64 x, .int .i64 0, .int .i64 (wrap64 ((N : Int) - 1))] V fun e w' => e = .returned (.bool false) ∧ w' = V) := fun V => by rw [← d3, HW.out]; exact H20.out V _ _ _
            have HZ : Hid (msB N l = true) := HX.out (by rw [EX.out, d3]; rfl)
            clear HX HY EX d3 H20 H21
            go_wp2_with (go_at_call 20; refine (H3.out _).mono ?_; rintro e w1 ⟨rfl, rfl⟩)
            go_ret
            exact ⟨by (rw [HZ.out]; rfl), rfl⟩
          | true =>
            have H3 : Hid (∀ V, Calls Tryd.prog 20 #[.int .i64 x, .int .i64 0, .int .i64 (wrap64 ((N : Int) - 1))] V fun e w' => e = .returned (.bool true) ∧ w' = V) := fun V => by rw [← d3, HW.out]; exact H20.out V _ _ _
            cases d4 : (l.take k).any fun y => x == y with
            | true =>
              have H4 : Hid (Calls Tryd.prog 21 #[.slice (some ⟨b, o, none⟩) k c, .int .i64 x] wr fun e w' => e = .returned (.bool true) ∧ w' = wr) := by have h := H21.out wr x rfl; rw [d4] at h; exact h
              have HZ : Hid (msB N l = true) := HX.out (by rw [EX.out, d3, d4]; rfl)
              clear HX HY EX d3 d4 H20 H21
              go_wp2_with (first
                | (go_at_call 21; refine (Calls.mono H4.out) ?_; rintro e w1 ⟨rfl, rfl⟩)
                | (go_at_call 20; refine (H3.out _).mono ?_; rintro e w1 ⟨rfl, rfl⟩))
              go_ret
              exact ⟨by (rw [HZ.out]; rfl), rfl⟩
            | false =>
              have H4 : Hid (Calls Tryd.prog 21 #[.slice (some ⟨b, o, none⟩) k c, .int .i64 x] wr fun e w' => e = .returned (.bool false) ∧ w' = wr) := by have h := H21.out wr x rfl; rw [d4] at h; exact h
              have HYY : Hid _ := HY.out (by rw [EX.out, d3, d4]; rfl)
              clear HX HY EX d3 d4 H21
              go_wp2_with (first
                | (go_at_call 21; refine (Calls.mono H4.out) ?_; rintro e w1 ⟨rfl, rfl⟩)
                | (go_at_call 20; refine (H3.out _).mono ?_; rintro e w1 ⟨rfl, rfl⟩))
              go_roundg (gk - 1)
              case measure => omega
              case rel => exact ⟨k + 1, by omega, by go_num, rfl, HYY.out⟩
        · obtain rfl : k = l.length := by omega
          have HZ : Hid (msB N l = false) := by
            show _ = _
            rw [HM.out, List.any_eq_false]
            intro j hj
            rw [NO.out j (List.mem_range.1 hj)]
            decide
          clear hlt
          go_wp2_with fail
          go_ret
          exact ⟨by (rw [HZ.out]; rfl), rfl⟩
end Go.Proofs.YtflabehlaiocaaaDoor
