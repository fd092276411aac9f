/- Lists of numbers: within, noTotal, ContainsFunc, Contains, the document's in. misplaced, losers. losers; Small, whole. -/
import Derived.Test.YtflabehlaiocaaaDoorBaseA
import Derived.Deep.CutBlock
import Derived.Laws.OwnMore
set_option linter.unusedSimpArgs false
set_option linter.unusedVariables false
set_option maxRecDepth 100000
namespace Go.Proofs.YtflabehlaiocaaaDoor
open Go.RowKit Go.Deep Go.PlainAid

theorem cell_lt2 {W : World} {b o : Nat} {v : Value} (h : W.cell? ⟨b, o, none⟩ = some v) : b < W.heap.size := by
  unfold World.cell? at h
  cases q : W.heap[b]? with
  | none => simp [q] at h
  | some x => exact (Array.getElem?_eq_some_iff.1 q).1
theorem cell_keep {W W' : World} {b o : Nat} {v : Value} (h : W.cell? ⟨b, o, none⟩ = some v) (hb : Below W.heap.size W W') : W'.cell? ⟨b, o, none⟩ = some v :=
  (World.cell?_of_block (a := ⟨b, o, none⟩) (hb.block b (cell_lt2 h))).trans h
/-- A list of numbers as it lies. -/
def IL (W : World) (a : Option Addr) (l : List Int) : Prop := ∀ i (h : i < l.length), ∃ b o, a = some ⟨b, o, none⟩ ∧ W.cell? ⟨b, o + i, none⟩ = some (.int .i64 l[i])
theorem IL.of_below {W W' : World} {a : Option Addr} {l : List Int} (h : IL W a l) (hb : Below W.heap.size W W') : IL W' a l := fun i hi => by
  obtain ⟨b, o, e, q⟩ := h i hi
  exact ⟨b, o, e, cell_keep q hb⟩
theorem IL.take {W : World} {a : Option Addr} {l : List Int} (h : IL W a l) (k : Nat) : IL W a (l.take k) := fun i hi => by
  have hi' : i < l.length := by simp at hi; omega
  obtain ⟨b, o, e, q⟩ := h i hi'
  exact ⟨b, o, e, by rw [List.getElem_take]; exact q⟩
def wiB (n lo hi : Int) : Bool := decide (lo ≤ n) && decide (n ≤ hi)
set_option maxHeartbeats 1000000 in
theorem within20 (n lo hi : Int) (w : World) : Calls Tryd.prog 20 #[.int .i64 n, .int .i64 lo, .int .i64 hi] w fun e w' => e = .returned (.bool (wiB n lo hi)) ∧ w' = w := by
  unfold wiB
  by_cases h1 : lo ≤ n
  · by_cases h2 : n ≤ hi
    · have d1 : decide (lo ≤ n) = true := by simpa using h1
      have d2 : decide (n ≤ hi) = true := by simpa using h2
      rw [d1, d2]
      go_enter Tryd.func20, Tryd.ntmps20
      go_wp2_with fail
      go_ret
      exact ⟨rfl, rfl⟩
    · have d1 : decide (lo ≤ n) = true := by simpa using h1
      have d2 : decide (n ≤ hi) = false := by simpa using h2
      rw [d1, d2]
      go_enter Tryd.func20, Tryd.ntmps20
      go_wp2_with fail
      go_ret
      exact ⟨rfl, rfl⟩
  · have d1 : decide (lo ≤ n) = false := by simpa using h1
    rw [d1]
    go_enter Tryd.func20, Tryd.ntmps20
    go_wp2_with fail
    go_ret
    exact ⟨rfl, rfl⟩
def ntB (n : Int) : Bool := !wiB n 0 1048576
set_option maxHeartbeats 1000000 in
theorem noTotal9 (n : Int) (w : World) : Calls Tryd.prog 9 #[.int .i64 n] w fun e w' => e = .returned (.bool (ntB n)) ∧ w' = w := by
  unfold ntB
  have H : Hid (∀ V, Calls Tryd.prog 20 #[.int .i64 n, .int .i64 0, .int .i64 1048576] V fun e w' => e = .returned (.bool (wiB n 0 1048576)) ∧ w' = V) := fun V => within20 n 0 1048576 V
  generalize wiB n 0 1048576 = r at *
  go_enter Tryd.func9, Tryd.ntmps9
  go_wp2_with (go_at_call 20; refine (H.out _).mono ?_; rintro e w1 ⟨rfl, rfl⟩)
  go_ret
  exact ⟨rfl, rfl⟩
/-- The first that a test takes; as a list long is the place, else -1. -/
def ixF (p : Int → Bool) (l : List Int) : Int := match l.findIdx? p with | some i => (i : Int) | none => -1
theorem ixF_neg (p : Int → Bool) (l : List Int) : decide (ixF p l ≥ 0) = l.any p := by
  unfold ixF
  cases h : l.findIdx? p with
  | none =>
    rw [List.findIdx?_eq_none_iff] at h
    have : l.any p = false := by rw [List.any_eq_false]; intro x hx; simpa using h x hx
    rw [this]; rfl
  | some i =>
    have h1 : l.any p = true := by
      rw [List.any_eq_true]
      rw [List.findIdx?_eq_some_iff_getElem] at h
      obtain ⟨hi, hp, _⟩ := h
      exact ⟨l[i], List.getElem_mem hi, hp⟩
    rw [h1]
    show decide ((i : Int) ≥ 0) = true
    exact decide_eq_true (by omega)
theorem find_go {p : Int → Bool} {l : List Int} {k : Nat} (hk : k < l.length) (hno : ∀ j (hj : j < k), p (l[j]'(by omega)) = false) (h : p l[k] = true) : l.findIdx? p = some k := by
  rw [List.findIdx?_eq_some_iff_getElem]
  exact ⟨hk, h, fun j hj => by simpa using hno j hj⟩
theorem find_no {p : Int → Bool} {l : List Int} (hno : ∀ j (hj : j < l.length), p l[j] = false) : l.findIdx? p = none := by
  rw [List.findIdx?_eq_none_iff]
  intro x hx
  obtain ⟨j, hj, rfl⟩ := List.mem_iff_getElem.1 hx
  exact hno j hj
set_option maxHeartbeats 2000000 in
theorem indexF22 {l : List Int} {a : Option Addr} {c : Nat} {w : World} (hl : IL w a l) (hn : l.length < 9223372036854775808) :
    Calls Tryd.prog 22 #[.slice a l.length c, .func (.func 9) #[] #[]] w fun e w' => e = .returned (.int .i64 (ixF ntB l)) ∧ w' = w := by
  have HL : Hid (IL w a l) := hl
  have H9 : Hid (∀ V x, Calls Tryd.prog 9 #[.int .i64 x] V fun e w' => e = .returned (.bool (ntB x)) ∧ w' = V) := fun V x => noTotal9 x V
  clear hl
  go_enter Tryd.func22, Tryd.ntmps22
  go_wp2_with fail
  go_loopg [5, 8] l.length (fun gk v5 v8 wr => ∃ k : Nat, k + gk = l.length ∧ v8 = .int .i64 (k : Int) ∧ wr = w ∧ ∀ j (hj : j < k) (hjl : j < l.length), ntB l[j] = false)
  case atStart => exact ⟨0, by omega, rfl, rfl, fun j hj => by omega⟩
  case round =>
    obtain ⟨k, hk, rfl, rfl, hno⟩ := hrel
    have NO : Hid (∀ j (hj : j < k) (hjl : j < l.length), ntB l[j] = false) := hno
    clear hno
    by_cases hlt : k < l.length
    · have il : (k : Int) < (l.length : Int) := by omega
      obtain ⟨b, o, rfl, q⟩ := HL.out k hlt
      have HX : Hid (ntB l[k] = true → ixF ntB l = (k : Int)) := fun h => by unfold ixF; rw [find_go hlt (fun j hj => NO.out j hj (by omega)) h]
      have HY : Hid (ntB l[k] = false → ∀ j (hj : j < k + 1) (hjl : j < l.length), ntB l[j] = false) := fun h j hj hjl => by
        by_cases e : j = k
        · subst e; exact h
        · exact NO.out j (by omega) hjl
      generalize l[k] = x at *
      have H9x : Hid (∀ V, Calls Tryd.prog 9 #[.int .i64 x] V fun e w' => e = .returned (.bool (ntB x)) ∧ w' = V) := fun V => H9.out V x
      cases ht : ntB x with
      | true =>
        have HXX : Hid (ixF ntB l = (k : Int)) := HX.out ht
        rw [ht] at H9x
        clear HX HY ht
        go_wp2_with (go_at_call 9; refine (H9x.out _).mono ?_; rintro e w1 ⟨rfl, rfl⟩)
        go_ret
        exact ⟨by (rw [HXX.out]; rfl), rfl⟩
      | false =>
        have HYY : Hid _ := HY.out ht
        rw [ht] at H9x
        clear HX HY ht
        go_wp2_with (go_at_call 9; refine (H9x.out _).mono ?_; rintro e w1 ⟨rfl, rfl⟩)
        go_roundg (gk - 1)
        case measure => omega
        case rel => exact ⟨k + 1, by omega, by go_num, rfl, HYY.out⟩
    · obtain rfl : k = l.length := by omega
      have HZ : Hid (ixF ntB l = -1) := by
        show _ = _
        unfold ixF
        rw [find_no (fun j hj => NO.out j hj hj)]
      clear hlt
      go_wp2_with fail
      go_ret
      exact ⟨by (rw [HZ.out]; rfl), rfl⟩
set_option maxHeartbeats 1000000 in
theorem containsF8 {l : List Int} {a : Option Addr} {c : Nat} {w : World} (hl : IL w a l) (hn : l.length < 9223372036854775808) :
    Calls Tryd.prog 8 #[.slice a l.length c, .func (.func 9) #[] #[]] w fun e w' => e = .returned (.bool (l.any ntB)) ∧ w' = w := by
  have H : Hid (Calls Tryd.prog 22 #[.slice a l.length c, .func (.func 9) #[] #[]] w fun e w' => e = .returned (.int .i64 (ixF ntB l)) ∧ w' = w) := indexF22 hl hn
  have e := ixF_neg ntB l
  rw [← e]
  generalize ixF ntB l = r at *
  clear e
  go_enter Tryd.func8, Tryd.ntmps8
  go_wp2_with (go_at_call 22; refine (Calls.mono H.out) ?_; rintro e w1 ⟨rfl, rfl⟩)
  go_ret
  exact ⟨by simp, rfl⟩
set_option maxHeartbeats 2000000 in
theorem index36 {l : List Int} {a : Option Addr} {c : Nat} {w : World} {x : Int} (hl : IL w a l) (hn : l.length < 9223372036854775808) :
    Calls Tryd.prog 36 #[.slice a l.length c, .int .i64 x] w fun e w' => e = .returned (.int .i64 (ixF (fun y => x == y) l)) ∧ w' = w := by
  have HL : Hid (IL w a l) := hl
  clear hl
  go_enter Tryd.func36, Tryd.ntmps36
  go_wp2_with fail
  go_loopg [5, 8] l.length (fun gk v5 v8 wr => ∃ k : Nat, k + gk = l.length ∧ v8 = .int .i64 (k : Int) ∧ wr = w ∧ ∀ j (hj : j < k) (hjl : j < l.length), (x == l[j]) = false)
  case atStart => exact ⟨0, by omega, rfl, rfl, fun j hj => by omega⟩
  case round =>
    obtain ⟨k, hk, rfl, rfl, hno⟩ := hrel
    have NO : Hid (∀ j (hj : j < k) (hjl : j < l.length), (x == l[j]) = false) := hno
    clear hno
    by_cases hlt : k < l.length
    · have il : (k : Int) < (l.length : Int) := by omega
      obtain ⟨b, o, rfl, q⟩ := HL.out k hlt
      have HX : Hid ((x == l[k]) = true → ixF (fun y => x == y) l = (k : Int)) := fun h => by unfold ixF; rw [find_go hlt (fun j hj => NO.out j hj (by omega)) h]
      have HY : Hid ((x == l[k]) = false → ∀ j (hj : j < k + 1) (hjl : j < l.length), (x == l[j]) = false) := fun h j hj hjl => by
        by_cases e : j = k
        · subst e; exact h
        · exact NO.out j (by omega) hjl
      generalize l[k] = y at *
      cases ht : (x == y) with
      | true =>
        have HXX : Hid (ixF (fun y => x == y) l = (k : Int)) := HX.out ht
        clear HX HY
        go_wp2_with fail
        go_ret
        exact ⟨by (rw [HXX.out]; rfl), rfl⟩
      | false =>
        have HYY : Hid _ := HY.out ht
        clear HX HY
        go_wp2_with fail
        go_roundg (gk - 1)
        case measure => omega
        case rel => exact ⟨k + 1, by omega, by go_num, rfl, HYY.out⟩
    · obtain rfl : k = l.length := by omega
      have HZ : Hid (ixF (fun y => x == y) l = -1) := by
        show _ = _
        unfold ixF
        rw [find_no (fun j hj => NO.out j hj hj)]
      clear hlt
      go_wp2_with fail
      go_ret
      exact ⟨by (rw [HZ.out]; rfl), rfl⟩
set_option maxHeartbeats 1000000 in
theorem contains21 {l : List Int} {a : Option Addr} {c : Nat} {w : World} {x : Int} (hl : IL w a l) (hn : l.length < 9223372036854775808) :
    Calls Tryd.prog 21 #[.slice a l.length c, .int .i64 x] w fun e w' => e = .returned (.bool (l.any fun y => x == y)) ∧ w' = w := by
  have H : Hid (Calls Tryd.prog 36 #[.slice a l.length c, .int .i64 x] w fun e w' => e = .returned (.int .i64 (ixF (fun y => x == y) l)) ∧ w' = w) := index36 hl hn
  have e := ixF_neg (fun y => x == y) l
  rw [← e]
  generalize ixF (fun y => x == y) l = r at *
  clear e
  go_enter Tryd.func21, Tryd.ntmps21
  go_wp2_with (go_at_call 36; refine (Calls.mono H.out) ?_; rintro e w1 ⟨rfl, rfl⟩)
  go_ret
  exact ⟨by simp, rfl⟩
set_option maxHeartbeats 2000000 in
theorem in13 {l : List Int} {a : Option Addr} {c : Nat} {w : World} {x : Int} (hl : IL w a l) (hn : l.length < 9223372036854775808) :
    Calls Tryd.prog 13 #[.slice a l.length c, .int .i64 x] w fun e w' => e = .returned (.bool (l.any fun y => x == y)) ∧ w' = w := by
  have HL : Hid (IL w a l) := hl
  clear hl
  go_enter Tryd.func13, Tryd.ntmps13
  go_wp2_with fail
  go_loopg [6, 9] l.length (fun gk v6 v9 wr => ∃ k : Nat, k + gk = l.length ∧ v9 = .int .i64 (k : Int) ∧ wr = w ∧ ∀ j (hj : j < k) (hjl : j < l.length), (l[j] == x) = false)
  case atStart => exact ⟨0, by omega, rfl, rfl, fun j hj => by omega⟩
  case round =>
    obtain ⟨k, hk, rfl, rfl, hno⟩ := hrel
    have NO : Hid (∀ j (hj : j < k) (hjl : j < l.length), (l[j] == x) = false) := hno
    clear hno
    by_cases hlt : k < l.length
    · have il : (k : Int) < (l.length : Int) := by omega
      obtain ⟨b, o, rfl, q⟩ := HL.out k hlt
      have HX : Hid ((l[k] == x) = true → (l.any fun y => x == y) = true) := fun h => List.any_eq_true.2 ⟨l[k], List.getElem_mem hlt, by rw [beq_iff_eq] at h ⊢; exact h.symm⟩
      have HY : Hid ((l[k] == x) = false → ∀ j (hj : j < k + 1) (hjl : j < l.length), (l[j] == x) = false) := fun h j hj hjl => by
        by_cases e : j = k
        · subst e; exact h
        · exact NO.out j (by omega) hjl
      generalize l[k] = y at *
      cases ht : (y == x) with
      | true =>
        have HXX : Hid ((l.any fun y => x == y) = true) := HX.out ht
        clear HX HY
        go_wp2_with fail
        go_ret
        exact ⟨by (rw [HXX.out]; rfl), rfl⟩
      | false =>
        have HYY : Hid _ := HY.out ht
        clear HX HY
        go_wp2_with fail
        go_roundg (gk - 1)
        case measure => omega
        case rel => exact ⟨k + 1, by omega, by go_num, rfl, HYY.out⟩
    · obtain rfl : k = l.length := by omega
      have HZ : Hid ((l.any fun y => x == y) = false) := by
        show _ = _
        rw [List.any_eq_false]
        intro y hy
        obtain ⟨j, hj, rfl⟩ := List.mem_iff_getElem.1 hy
        have := NO.out j hj hj
        simp at this ⊢
        exact fun h => this h.symm
      clear hlt
      go_wp2_with fail
      go_ret
      exact ⟨by (rw [HZ.out]; rfl), rfl⟩
end Go.Proofs.YtflabehlaiocaaaDoor
namespace Go.Proofs.YtflabehlaiocaaaDoor
open Go.RowKit Go.Deep Go.PlainAid

/-- Is the winner at place i no place, or there before? -/
def wrB (N : Nat) (l : List Int) (i : Nat) : Bool := !wiB (l.getD i 0) 0 ((N : Int) - 1) || (l.take i).any fun y => l.getD i 0 == y
def msB (N : Nat) (l : List Int) : Bool := !wiB (N : Int) 2 12 || (!wiB (l.length : Int) 1 ((N : Int) - 1) || (List.range l.length).any (wrB N l))
theorem wrap_sub1 {N : Nat} (h : N ≤ 9223372036854775807) : wrap64 ((N : Int) - 1) = (N : Int) - 1 := by unfold wrap64; omega
set_option maxHeartbeats 4000000 in
theorem misplaced7 {l : List Int} {a at' : Option Addr} {c ct N : Nat} {w : World} (hl : IL w a l) (hc : l.length ≤ c) (hc9 : c ≤ 9223372036854775807) (hN : N ≤ 9223372036854775807) :
    Calls Tryd.prog 7 #[.slice at' N ct, .slice a l.length c] w fun e w' => e = .returned (.bool (msB N l)) ∧ w' = w := by
  have HW : Hid (wrap64 ((N : Int) - 1) = (N : Int) - 1) := wrap_sub1 hN
  have HI : Hid (IL w a l) := hl
  have H20 : Hid (∀ V n lo hi, Calls Tryd.prog 20 #[.int .i64 n, .int .i64 lo, .int .i64 hi] V fun e w' => e = .returned (.bool (wiB n lo hi)) ∧ w' = V) := fun V n lo hi => within20 n lo hi V
  have CC : Hid (l.length ≤ c ∧ c ≤ 9223372036854775807) := ⟨hc, hc9⟩
  have ln9 : l.length < 9223372036854775808 := by omega
  clear hl hc hc9 hN
  cases d1 : wiB (N : Int) 2 12 with
  | false =>
    have HZ : Hid (msB N l = true) := by show _ = _; unfold msB; rw [d1]; rfl
    have H1 : Hid (∀ V, Calls Tryd.prog 20 #[.int .i64 (N : Int), .int .i64 2, .int .i64 12] V fun e w' => e = .returned (.bool false) ∧ w' = V) := fun V => by rw [← d1]; exact H20.out V _ _ _
    clear H20 d1
    go_enter Tryd.func7, Tryd.ntmps7
    go_wp2_with (go_at_call 20; refine (H1.out _).mono ?_; rintro e w1 ⟨rfl, rfl⟩)
    go_ret
    exact ⟨by (rw [HZ.out]; rfl), rfl⟩
  | true =>
    have H1 : Hid (∀ V, Calls Tryd.prog 20 #[.int .i64 (N : Int), .int .i64 2, .int .i64 12] V fun e w' => e = .returned (.bool true) ∧ w' = V) := fun V => by rw [← d1]; exact H20.out V _ _ _
    cases d2 : wiB (l.length : Int) 1 ((N : Int) - 1) with
    | false =>
      have HZ : Hid (msB N l = true) := by show _ = _; unfold msB; rw [d1, d2]; rfl
      have H2 : Hid (∀ V, Calls Tryd.prog 20 #[.int .i64 (l.length : Int), .int .i64 1, .int .i64 (wrap64 ((N : Int) - 1))] V fun e w' => e = .returned (.bool false) ∧ w' = V) := fun V => by rw [← d2, HW.out]; exact H20.out V _ _ _
      clear H20 d1 d2
      go_enter Tryd.func7, Tryd.ntmps7
      go_wp2_with (go_at_call 20; refine (H1.out _).mono ?_)
      rintro e w1 ⟨rfl, rfl⟩
      clear H1
      go_wp2_with (go_at_call 20; refine (H2.out _).mono ?_)
      rintro e w1 ⟨rfl, rfl⟩
      clear H2
      go_wp2_with fail
      go_ret
      exact ⟨by (rw [HZ.out]; rfl), rfl⟩
    | true =>
      have HM : Hid (msB N l = (List.range l.length).any (wrB N l)) := by show _ = _; unfold msB; rw [d1, d2]; rfl
      have H2 : Hid (∀ V, Calls Tryd.prog 20 #[.int .i64 (l.length : Int), .int .i64 1, .int .i64 (wrap64 ((N : Int) - 1))] V fun e w' => e = .returned (.bool true) ∧ w' = V) := fun V => by rw [← d2, HW.out]; exact H20.out V _ _ _
      clear d1 d2
      go_enter Tryd.func7, Tryd.ntmps7
      go_wp2_with (go_at_call 20; refine (H1.out _).mono ?_)
      rintro e w1 ⟨rfl, rfl⟩
      clear H1
      go_wp2_with (go_at_call 20; refine (H2.out _).mono ?_)
      rintro e w1 ⟨rfl, rfl⟩
      clear H2
      go_wp2_with fail
      go_loopg [6, 7, 23] l.length (fun gk v6 v7 v23 wr => ∃ k : Nat, k + gk = l.length ∧ v23 = .int .i64 (k : Int) ∧ wr = w1 ∧ ∀ j (hj : j < k), wrB N l j = false)
      case atStart => exact ⟨0, by omega, rfl, rfl, fun j hj => by omega⟩
      case round =>
        obtain ⟨k, hk, rfl, rfl, hno⟩ := hrel
        have NO : Hid (∀ j (hj : j < k), wrB N l j = false) := hno
        clear hno
        by_cases hlt : k < l.length
        · have il : (k : Int) < (l.length : Int) := by omega
          obtain ⟨b, o, rfl, q⟩ := HI.out k hlt
          have kc : (k : Int) ≤ (c : Int) := by have := CC.out; omega
          have c0 : c ≠ 0 := by have := CC.out; omega
          have EX : Hid (wrB N l k = (!wiB l[k] 0 ((N : Int) - 1) || (l.take k).any fun y => l[k] == y)) := by
            show _ = _
            have e : l.getD k 0 = l[k] := by simp [hlt]
            unfold wrB
            rw [e]
          have HX : Hid (wrB N l k = true → msB N l = true) := fun h => by rw [HM.out]; exact List.any_eq_true.2 ⟨k, List.mem_range.2 hlt, h⟩
          have HY : Hid (wrB N l k = false → ∀ j (hj : j < k + 1), wrB N l j = false) := fun h j hj => by
            by_cases e : j = k
            · subst e; exact h
            · exact NO.out j (by omega)
          have H21 : Hid (∀ V x, V = wr → Calls Tryd.prog 21 #[.slice (some ⟨b, o, none⟩) k c, .int .i64 x] V fun e w' => e = .returned (.bool ((l.take k).any fun y => x == y)) ∧ w' = V) := fun V x hV => by
            subst hV
            have h := contains21 (x := x) (c := c) (HI.out.take k) (by simp; omega)
            have e : (l.take k).length = k := by simp; omega
            rw [e] at h
            exact h
          generalize l[k] = x at *
          cases d3 : wiB x 0 ((N : Int) - 1) with
          | false =>
            have H3 : Hid (∀ V, Calls Tryd.prog 20 #[.int .i64 x, .int .i64 0, .int .i64 (wrap64 ((N : Int) - 1))] V fun e w' => e = .returned (.bool false) ∧ w' = V) := fun V => by rw [← d3, HW.out]; exact H20.out V _ _ _
            have HZ : Hid (msB N l = true) := HX.out (by rw [EX.out, d3]; rfl)
            clear HX HY EX d3 H20 H21
            go_wp2_with (go_at_call 20; refine (H3.out _).mono ?_; rintro e w1 ⟨rfl, rfl⟩)
            go_ret
            exact ⟨by (rw [HZ.out]; rfl), rfl⟩
          | true =>
            have H3 : Hid (∀ V, Calls Tryd.prog 20 #[.int .i64 x, .int .i64 0, .int .i64 (wrap64 ((N : Int) - 1))] V fun e w' => e = .returned (.bool true) ∧ w' = V) := fun V => by rw [← d3, HW.out]; exact H20.out V _ _ _
            cases d4 : (l.take k).any fun y => x == y with
            | true =>
              have H4 : Hid (Calls Tryd.prog 21 #[.slice (some ⟨b, o, none⟩) k c, .int .i64 x] wr fun e w' => e = .returned (.bool true) ∧ w' = wr) := by have h := H21.out wr x rfl; rw [d4] at h; exact h
              have HZ : Hid (msB N l = true) := HX.out (by rw [EX.out, d3, d4]; rfl)
              clear HX HY EX d3 d4 H20 H21
              go_wp2_with (first
                | (go_at_call 21; refine (Calls.mono H4.out) ?_; rintro e w1 ⟨rfl, rfl⟩)
                | (go_at_call 20; refine (H3.out _).mono ?_; rintro e w1 ⟨rfl, rfl⟩))
              go_ret
              exact ⟨by (rw [HZ.out]; rfl), rfl⟩
            | false =>
              have H4 : Hid (Calls Tryd.prog 21 #[.slice (some ⟨b, o, none⟩) k c, .int .i64 x] wr fun e w' => e = .returned (.bool false) ∧ w' = wr) := by have h := H21.out wr x rfl; rw [d4] at h; exact h
              have HYY : Hid _ := HY.out (by rw [EX.out, d3, d4]; rfl)
              clear HX HY EX d3 d4 H21
              go_wp2_with (first
                | (go_at_call 21; refine (Calls.mono H4.out) ?_; rintro e w1 ⟨rfl, rfl⟩)
                | (go_at_call 20; refine (H3.out _).mono ?_; rintro e w1 ⟨rfl, rfl⟩))
              go_roundg (gk - 1)
              case measure => omega
              case rel => exact ⟨k + 1, by omega, by go_num, rfl, HYY.out⟩
        · obtain rfl : k = l.length := by omega
          have HZ : Hid (msB N l = false) := by
            show _ = _
            rw [HM.out, List.any_eq_false]
            intro j hj
            rw [NO.out j (List.mem_range.1 hj)]
            decide
          clear hlt
          go_wp2_with fail
          go_ret
          exact ⟨by (rw [HZ.out]; rfl), rfl⟩
end Go.Proofs.YtflabehlaiocaaaDoor
namespace Go.Proofs.YtflabehlaiocaaaDoor
open Go.RowKit Go.Deep Go.PlainAid

theorem info3 : ∃ i, Tryd.prog.info? 3 = some i ∧ i.zero = some (.int .i64 0) ∧ i.size = 1 ∧ i.bytes = 8 := by
  have h1 : (Tryd.prog.info? 3).map (fun i => (i.size, i.bytes)) = some (1, 8) := by kernel_rfl
  have h2 : (Tryd.prog.info? 3).bind (fun i => i.zero) = some (.int .i64 0) := by kernel_rfl
  cases hq : Tryd.prog.info? 3 with
  | none => rw [hq] at h1; cases h1
  | some i =>
    rw [hq] at h1 h2
    simp only [Option.map_some, Option.some.injEq, Prod.mk.injEq] at h1
    exact ⟨i, rfl, h2, h1.1, h1.2⟩
/-- Numbers as values. -/
def iv (l : List Int) : List Value := l.map fun x => .int .i64 x
theorem iv_len (l : List Int) : (iv l).length = l.length := by simp [iv]
theorem il_of_own {W : World} {base : Nat} {v : Value} {l : List Int} (h : W.ownsRow base 3 1 v l.length (iv l)) : ∃ a c, v = .slice a l.length c ∧ IL W a l ∧ l.length ≤ c ∧ c ≤ 9223372036854775807 := by
  obtain ⟨hl, ⟨rfl, h0⟩ | ⟨g, cap, cur, rfl, hbg, hg, hc, hm, hs, ht⟩⟩ := id h
  · exact ⟨none, 0, by rw [h0], fun i hi => by omega, by omega, by omega⟩
  · refine ⟨some ⟨g, 0, none⟩, cap, rfl, fun i hi => ⟨g, 0, rfl, ?_⟩, hc, by unfold maxLen at hm; omega⟩
    rw [Nat.zero_add, h.cellAt i (by omega)]
    simp [iv, hi]
theorem own_keep {W W' : World} {base size n : Nat} {e : TypeId} {v : Value} {xs : List Value} (h : W.ownsRow base e size v n xs) (hb : Below W.heap.size W W') : W'.ownsRow base e size v n xs := by
  obtain ⟨h1, h2 | ⟨g, cap, cur, q1, q2, q3, q4⟩⟩ := h
  · exact ⟨h1, Or.inl h2⟩
  · exact ⟨h1, Or.inr ⟨g, cap, cur, q1, q2, (hb.block g (Array.getElem?_eq_some_iff.1 q3).1).trans q3, q4⟩⟩
def loL (l : List Int) (k : Nat) : List Int := ((List.range k).filter fun (p : Nat) => !(l.any fun y => (p : Int) == y)).map fun (p : Nat) => (p : Int)
theorem loL_succ (l : List Int) (k : Nat) : loL l (k + 1) = if (l.any fun y => (k : Int) == y) = true then loL l k else loL l k ++ [(k : Int)] := by
  unfold loL
  rw [List.range_succ, List.filter_append, List.map_append]
  cases h : l.any fun y => (k : Int) == y <;> simp [h]
theorem loL_le (l : List Int) (k : Nat) : (loL l k).length ≤ k := by
  unfold loL
  rw [List.length_map]
  exact Nat.le_trans (List.length_filter_le _ _) (by simp)
set_option maxHeartbeats 4000000 in
theorem losers27 {l : List Int} {a : Option Addr} {c N : Nat} {w : World} (hl : IL w a l) (hln : l.length < 9223372036854775808) (hN : N ≤ 4000) :
    Calls Tryd.prog 27 #[.int .i64 (N : Int), .slice a l.length c] w fun e w' => (∃ a' c', e = .returned (.slice a' (loL l N).length c') ∧ IL w' a' (loL l N) ∧ (loL l N).length ≤ c' ∧ c' ≤ 9223372036854775807) ∧ Below w.heap.size w w' := by
  obtain ⟨i0, hi0, hz0, hz1, hz2⟩ := info3
  have H21 : Hid (∀ V x, Below w.heap.size w V → Calls Tryd.prog 21 #[.slice a l.length c, .int .i64 x] V fun e w' => e = .returned (.bool (l.any fun y => x == y)) ∧ w' = V) := fun V x hV => contains21 (hl.of_below hV) hln
  clear hl
  go_enter Tryd.func27, Tryd.ntmps27
  go_wp2_with fail
  go_loopg [5, 6, 8] N (fun gk v5 v6 v8 wr => ∃ k : Nat, k + gk = N ∧ v8 = .int .i64 (k : Int) ∧ wr.ownsRow w.heap.size 3 1 v5 (loL l k).length (iv (loL l k)) ∧ Below w.heap.size w wr)
  case atStart => exact ⟨0, by omega, rfl, World.ownsRow_nil _ _ _ _, Below.refl _ _⟩
  case round =>
    obtain ⟨k, hk, rfl, hO, hB⟩ := hrel
    have O : Hid (wr.ownsRow w.heap.size 3 1 u5 (loL l k).length (iv (loL l k))) := hO
    have B : Hid (Below w.heap.size w wr) := hB
    clear hO hB
    by_cases hlt : k < N
    · have il : (k : Int) < (N : Int) := by omega
      have LE : Hid ((loL l k).length ≤ 4000) := by show _ ≤ _; have := loL_le l k; omega
      have HC : Hid (Calls Tryd.prog 21 #[.slice a l.length c, .int .i64 (k : Int)] wr fun e w' => e = .returned (.bool (l.any fun y => (k : Int) == y)) ∧ w' = wr) := H21.out wr k B.out
      have LS : Hid (_ = _) := loL_succ l k
      cases ht : l.any fun y => (k : Int) == y with
      | true =>
        rw [ht] at HC LS
        have LX : Hid (loL l (k + 1) = loL l k) := by have q := LS.out; rw [if_pos rfl] at q; exact q
        clear LS ht H21
        go_wp2_with (go_at_call 21; refine (Calls.mono HC.out) ?_)
        rintro e V ⟨rfl, hV⟩
        subst hV
        go_wp2_with fail
        go_roundg (gk - 1)
        case measure => omega
        case rel => exact ⟨k + 1, by omega, by go_num, by rw [LX.out]; exact O.out, B.out⟩
      | false =>
        rw [ht] at HC LS
        have LX : Hid (loL l (k + 1) = loL l k ++ [(k : Int)]) := by have q := LS.out; rw [if_neg (by decide)] at q; exact q
        clear LS ht H21
        have B2 : Hid (Below w.heap.size w (wr.alloc (.cells #[.int .i64 (k : Int)] 3))) := B.out.alloc B.out.size _
        have O2 : Hid ((wr.alloc (.cells #[.int .i64 (k : Int)] 3)).ownsRow w.heap.size 3 1 u5 (loL l k).length (iv (loL l k))) := O.out.alloc _
        have HC2 : Hid (∀ jj u, [Value.int .i64 (k : Int)][jj]? = some u → (wr.alloc (.cells #[.int .i64 (k : Int)] 3)).cell? ((⟨wr.heap.size, 0, none⟩ : Addr).add jj) = some u) := (fun jj u hu => by (match jj, hu with | 0, hu => (simp at hu; subst hu; simp [Addr.add])))
        go_wp2_with (go_at_call 21; refine (Calls.mono HC.out) ?_)
        rintro e V ⟨rfl, hV⟩
        subst hV
        go_wp2_with (at_builtin; refine wpList_append_own _ rfl (.tmp 15) (.tmp 17) 22 rfl w.heap.size 3 i0 (.int .i64 0) 1 8 Tryd.underlying22 hi0 hz0 hz1 hz2 rfl (by decide) u5 (loL l k).length (iv (loL l k)) rfl O2.out ⟨V.heap.size, 0, none⟩ 1 1 [.int .i64 (k : Int)] rfl rfl HC2.out (fun u hu => by simp at hu; subst hu; rfl) (by have := LE.out; unfold maxLen; omega) (by have := LE.out; omega) B2.out.size ?_; intro v9 w9 hown hgrow hn; have O9 : Hid (w9.ownsRow w.heap.size 3 1 v9 ((loL l k).length + 1) (iv (loL l k) ++ [.int .i64 (k : Int)])) := hown; have B9 : Hid (Below w.heap.size w w9) := B2.out.grown hgrow B2.out.size (fun g hg => (O2.out.lt g hg).1); clear hown hgrow hn)
        go_roundg (gk - 1)
        case measure => omega
        case rel => exact ⟨k + 1, by omega, by go_num, by rw [LX.out]; have q := O9.out; simpa [iv] using q, B9.out⟩
    · obtain rfl : k = N := by omega
      obtain ⟨a5, c5, e5, s5, q5, z5⟩ := il_of_own O.out
      subst e5
      have S5 : Hid (IL wr a5 (loL l k) ∧ (loL l k).length ≤ c5 ∧ c5 ≤ 9223372036854775807) := ⟨s5, q5, z5⟩
      clear hlt s5 q5 z5
      go_wp2_with fail
      go_ret
      exact ⟨⟨_, _, rfl, S5.out.1, S5.out.2.1, S5.out.2.2⟩, B.out⟩
end Go.Proofs.YtflabehlaiocaaaDoor
