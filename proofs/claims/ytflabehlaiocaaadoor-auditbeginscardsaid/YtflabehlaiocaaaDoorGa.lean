/- Lists of numbers: within, noTotal, ContainsFunc, Contains, the document's in. -/
import Derived.Test.YtflabehlaiocaaaDoorBaseA
import Derived.Deep.CutBlock
set_option linter.unusedSimpArgs false
set_option linter.unusedVariables false
set_option maxRecDepth 100000
namespace Go.Proofs.YtflabehlaiocaaaDoor
open Go.RowKit Go.Deep Go.PlainAid

theorem cell_lt2 {W : World} {b o : Nat} {v : Value} (h : W.cell? ⟨b, o, none⟩ = some v) : b < W.heap.size := by
  unfold World.cell? at h
  cases q : W.heap[b]? with
  | none => simp [q] at h
  | some x => exact (Array.getElem?_eq_some_iff.1 q).1
theorem cell_keep {W W' : World} {b o : Nat} {v : Value} (h : W.cell? ⟨b, o, none⟩ = some v) (hb : Below W.heap.size W W') : W'.cell? ⟨b, o, none⟩ = some v :=
  (World.cell?_of_block (a := ⟨b, o, none⟩) (hb.block b (cell_lt2 h))).trans h
/-- A list of numbers as it lies. -/
def IL (W : World) (a : Option Addr) (l : List Int) : Prop := ∀ i (h : i < l.length), ∃ b o, a = some ⟨b, o, none⟩ ∧ W.cell? ⟨b, o + i, none⟩ = some (.int .i64 l[i])
theorem IL.of_below {W W' : World} {a : Option Addr} {l : List Int} (h : IL W a l) (hb : Below W.heap.size W W') : IL W' a l := fun i hi => by
  obtain ⟨b, o, e, q⟩ := h i hi
  exact ⟨b, o, e, cell_keep q hb⟩
theorem IL.take {W : World} {a : Option Addr} {l : List Int} (h : IL W a l) (k : Nat) : IL W a (l.take k) := fun i hi => by
  have hi' : i < l.length := by simp at hi; omega
  obtain ⟨b, o, e, q⟩ := h i hi'
  exact ⟨b, o, e, by rw [List.getElem_take]; exact q⟩
def wiB (n lo hi : Int) : Bool := decide (lo ≤ n) && decide (n ≤ hi)
set_option maxHeartbeats 1000000 in
theorem within20 (n lo hi : Int) (w : World) : Calls Tryd.prog 20 #[.int .i64 n, .int .i64 lo, .int .i64 hi] w fun e w' => e = .returned (.bool (wiB n lo hi)) ∧ w' = w := by
  unfold wiB
  by_cases h1 : lo ≤ n
  · by_cases h2 : n ≤ hi
    · have d1 : decide (lo ≤ n) = true := by simpa using h1
      have d2 : decide (n ≤ hi) = true := by simpa using h2
      rw [d1, d2]
      go_enter Tryd.func20, Tryd.ntmps20
      go_wp2_with fail
      go_ret
      exact ⟨rfl, rfl⟩
    · have d1 : decide (lo ≤ n) = true := by simpa using h1
      have d2 : decide (n ≤ hi) = false := by simpa using h2
      rw [d1, d2]
      go_enter Tryd.func20, Tryd.ntmps20
      go_wp2_with fail
      go_ret
      exact ⟨rfl, rfl⟩
  · have d1 : decide (lo ≤ n) = false := by simpa using h1
    rw [d1]
    go_enter Tryd.func20, Tryd.ntmps20
    go_wp2_with fail
    go_ret
    exact ⟨rfl, rfl⟩
def ntB (n : Int) : Bool := !wiB n 0 1048576
set_option maxHeartbeats 1000000 in
theorem noTotal9 (n : Int) (w : World) : Calls Tryd.prog 9 #[.int .i64 n] w fun e w' => e = .returned (.bool (ntB n)) ∧ w' = w := by
  unfold ntB
  have H : Hid (∀ V, Calls Tryd.prog 20 #[.int .i64 n, .int .i64 0, .int .i64 1048576] V fun e w' => e = .returned (.bool (wiB n 0 1048576)) ∧ w' = V) := fun V => within20 n 0 1048576 V
  generalize wiB n 0 1048576 = r at *
  go_enter Tryd.func9, Tryd.ntmps9
  go_wp2_with (go_at_call 20; refine (H.out _).mono ?_; rintro e w1 ⟨rfl, rfl⟩)
  go_ret
  exact ⟨rfl, rfl⟩
/-- The first that a test takes; as a list long is the place, else -1. -/
def ixF (p : Int → Bool) (l : List Int) : Int := match l.findIdx? p with | some i => (i : Int) | none => -1
theorem ixF_neg (p : Int → Bool) (l : List Int) : decide (ixF p l ≥ 0) = l.any p := by
  unfold ixF
  cases h : l.findIdx? p with
  | none =>
    rw [List.findIdx?_eq_none_iff] at h
    have : l.any p = false := by rw [List.any_eq_false]; intro x hx; simpa using h x hx
    rw [this]; rfl
  | some i =>
    have h1 : l.any p = true := by
      rw [List.any_eq_true]
      rw [List.findIdx?_eq_some_iff_getElem] at h
      obtain ⟨hi, hp, _⟩ := h
      exact ⟨l[i], List.getElem_mem hi, hp⟩
    rw [h1]
    show decide ((i : Int) ≥ 0) = true
    exact decide_eq_true (by omega)
theorem find_go {p : Int → Bool} {l : List Int} {k : Nat} (hk : k < l.length) (hno : ∀ j (hj : j < k), p (l[j]'(by omega)) = false) (h : p l[k] = true) : l.findIdx? p = some k := by
  rw [List.findIdx?_eq_some_iff_getElem]
  exact ⟨hk, h, fun j hj => by simpa using hno j hj⟩
theorem find_no {p : Int → Bool} {l : List Int} (hno : ∀ j (hj : j < l.length), p l[j] = false) : l.findIdx? p = none := by
  rw [List.findIdx?_eq_none_iff]
  intro x hx
  obtain ⟨j, hj, rfl⟩ := List.mem_iff_getElem.1 hx
  exact hno j hj
set_option maxHeartbeats 2000000 in
theorem indexF22 {l : List Int} {a : Option Addr} {c : Nat} {w : World} (hl : IL w a l) (hn : l.length < 9223372036854775808) :
    Calls Tryd.prog 22 #[.slice a l.length c, .func (.func 9) #[] #[]] w fun e w' => e = .returned (.int .i64 (ixF ntB l)) ∧ w' = w := by
  have HL : Hid (IL w a l) := hl
  have H9 : Hid (∀ V x, Calls Tryd.prog 9 #[.int .i64 x] V fun e w' => e = .returned (.bool (ntB x)) ∧ w' = V) := fun V x => noTotal9 x V
  clear hl
  go_enter Tryd.func22, Tryd.ntmps22
  go_wp2_with fail
  go_loopg [5, 8] l.length (fun gk v5 v8 wr => ∃ k : Nat, k + gk = l.length ∧ v8 = .int .i64 (k : Int) ∧ wr = w ∧ ∀ j (hj : j < k) (hjl : j < l.length), ntB l[j] = false)
  case atStart => exact ⟨0, by omega, rfl, rfl, fun j hj => by omega⟩
  case round =>
    obtain ⟨k, hk, rfl, rfl, hno⟩ := hrel
    have NO : Hid (∀ j (hj : j < k) (hjl : j < l.length), ntB l[j] = false) := hno
    clear hno
    by_cases hlt : k < l.length
    · have il : (k : Int) < (l.length : Int) := by omega
      obtain ⟨b, o, rfl, q⟩ := HL.out k hlt
      have HX : Hid (ntB l[k] = true → ixF ntB l = (k : Int)) := fun h => by unfold ixF; rw [find_go hlt (fun j hj => NO.out j hj (by omega)) h]
      have HY : Hid (ntB l[k] = false → ∀ j (hj : j < k + 1) (hjl : j < l.length), ntB l[j] = false) := fun h j hj hjl => by
        by_cases e : j = k
        · subst e; exact h
        · exact NO.out j (by omega) hjl
      generalize l[k] = x at *
      have H9x : Hid (∀ V, Calls Tryd.prog 9 #[.int .i64 x] V fun e w' => e = .returned (.bool (ntB x)) ∧ w' = V) := fun V => H9.out V x
      cases ht : ntB x with
      | true =>
        have HXX : Hid (ixF ntB l = (k : Int)) := HX.out ht
        rw [ht] at H9x
        clear HX HY ht
        go_wp2_with (go_at_call 9; refine (H9x.out _).mono ?_; rintro e w1 ⟨rfl, rfl⟩)
        go_ret
        exact ⟨by (rw [HXX.out]; rfl), rfl⟩
      | false =>
        have HYY : Hid _ := HY.out ht
        rw [ht] at H9x
        clear HX HY ht
        go_wp2_with (go_at_call 9; refine (H9x.out _).mono ?_; rintro e w1 ⟨rfl, rfl⟩)
        go_roundg (gk - 1)
        case measure => omega
        case rel => exact ⟨k + 1, by omega, by go_num, rfl, HYY.out⟩
    · obtain rfl : k = l.length := by omega
      have HZ : Hid (ixF ntB l = -1) := by
        show _ = _
        unfold ixF
        rw [find_no (fun j hj => NO.out j hj hj)]
      clear hlt
      go_wp2_with fail
      go_ret
      exact ⟨by (rw [HZ.out]; rfl), rfl⟩
set_option maxHeartbeats 1000000 in
theorem containsF8 {l : List Int} {a : Option Addr} {c : Nat} {w : World} (hl : IL w a l) (hn : l.length < 9223372036854775808) :
    Calls Tryd.prog 8 #[.slice a l.length c, .func (.func 9) #[] #[]] w fun e w' => e = .returned (.bool (l.any ntB)) ∧ w' = w := by
  have H : Hid (Calls Tryd.prog 22 #[.slice a l.length c, .func (.func 9) #[] #[]] w fun e w' => e = .returned (.int .i64 (ixF ntB l)) ∧ w' = w) := indexF22 hl hn
  have e := ixF_neg ntB l
  rw [← e]
  generalize ixF ntB l = r at *
  clear e
  go_enter Tryd.func8, Tryd.ntmps8
  go_wp2_with (go_at_call 22; refine (Calls.mono H.out) ?_; rintro e w1 ⟨rfl, rfl⟩)
  go_ret
  exact ⟨by simp, rfl⟩
set_option maxHeartbeats 2000000 in
theorem index36 {l : List Int} {a : Option Addr} {c : Nat} {w : World} {x : Int} (hl : IL w a l) (hn : l.length < 9223372036854775808) :
    Calls Tryd.prog 36 #[.slice a l.length c, .int .i64 x] w fun e w' => e = .returned (.int .i64 (ixF (fun y => x == y) l)) ∧ w' = w := by
  have HL : Hid (IL w a l) := hl
  clear hl
  go_enter Tryd.func36, Tryd.ntmps36
  go_wp2_with fail
  go_loopg [5, 8] l.length (fun gk v5 v8 wr => ∃ k : Nat, k + gk = l.length ∧ v8 = .int .i64 (k : Int) ∧ wr = w ∧ ∀ j (hj : j < k) (hjl : j < l.length), (x == l[j]) = false)
  case atStart => exact ⟨0, by omega, rfl, rfl, fun j hj => by omega⟩
  case round =>
    obtain ⟨k, hk, rfl, rfl, hno⟩ := hrel
    have NO : Hid (∀ j (hj : j < k) (hjl : j < l.length), (x == l[j]) = false) := hno
    clear hno
    by_cases hlt : k < l.length
    · have il : (k : Int) < (l.length : Int) := by omega
      obtain ⟨b, o, rfl, q⟩ := HL.out k hlt
      have HX : Hid ((x == l[k]) = true → ixF (fun y => x == y) l = (k : Int)) := fun h => by unfold ixF; rw [find_go hlt (fun j hj => NO.out j hj (by omega)) h]
      have HY : Hid ((x == l[k]) = false → ∀ j (hj : j < k + 1) (hjl : j < l.length), (x == l[j]) = false) := fun h j hj hjl => by
        by_cases e : j = k
        · subst e; exact h
        · exact NO.out j (by omega) hjl
      generalize l[k] = y at *
      cases ht : (x == y) with
      | true =>
        have HXX : Hid (ixF (fun y => x == y) l = (k : Int)) := HX.out ht
        clear HX HY
        go_wp2_with fail
        go_ret
        exact ⟨by (rw [HXX.out]; rfl), rfl⟩
      | false =>
        have HYY : Hid _ := HY.out ht
        clear HX HY
        go_wp2_with fail
        go_roundg (gk - 1)
        case measure => omega
        case rel => exact ⟨k + 1, by omega, by go_num, rfl, HYY.out⟩
    · obtain rfl : k = l.length := by omega
      have HZ : Hid (ixF (fun y => x == y) l = -1) := by
        show _ = _
        unfold ixF
        rw [find_no (fun j hj => NO.out j hj hj)]
      clear hlt
      go_wp2_with fail
      go_ret
      exact ⟨by (rw [HZ.out]; rfl), rfl⟩
set_option maxHeartbeats 1000000 in
theorem contains21 {l : List Int} {a : Option Addr} {c : Nat} {w : World} {x : Int} (hl : IL w a l) (hn : l.length < 9223372036854775808) :
    Calls Tryd.prog 21 #[.slice a l.length c, .int .i64 x] w fun e w' => e = .returned (.bool (l.any fun y => x == y)) ∧ w' = w := by
  have H : Hid (Calls Tryd.prog 36 #[.slice a l.length c, .int .i64 x] w fun e w' => e = .returned (.int .i64 (ixF (fun y => x == y) l)) ∧ w' = w) := index36 hl hn
  have e := ixF_neg (fun y => x == y) l
  rw [← e]
  generalize ixF (fun y => x == y) l = r at *
  clear e
  go_enter Tryd.func21, Tryd.ntmps21
  go_wp2_with (go_at_call 36; refine (Calls.mono H.out) ?_; rintro e w1 ⟨rfl, rfl⟩)
  go_ret
  exact ⟨by simp, rfl⟩
set_option maxHeartbeats 2000000 in
theorem in13 {l : List Int} {a : Option Addr} {c : Nat} {w : World} {x : Int} (hl : IL w a l) (hn : l.length < 9223372036854775808) :
    Calls Tryd.prog 13 #[.slice a l.length c, .int .i64 x] w fun e w' => e = .returned (.bool (l.any fun y => x == y)) ∧ w' = w := by
  have HL : Hid (IL w a l) := hl
  clear hl
  go_enter Tryd.func13, Tryd.ntmps13
  go_wp2_with fail
  go_loopg [6, 9] l.length (fun gk v6 v9 wr => ∃ k : Nat, k + gk = l.length ∧ v9 = .int .i64 (k : Int) ∧ wr = w ∧ ∀ j (hj : j < k) (hjl : j < l.length), (l[j] == x) = false)
  case atStart => exact ⟨0, by omega, rfl, rfl, fun j hj => by omega⟩
  case round =>
    obtain ⟨k, hk, rfl, rfl, hno⟩ := hrel
    have NO : Hid (∀ j (hj : j < k) (hjl : j < l.length), (l[j] == x) = false) := hno
    clear hno
    by_cases hlt : k < l.length
    · have il : (k : Int) < (l.length : Int) := by omega
      obtain ⟨b, o, rfl, q⟩ := HL.out k hlt
      have HX : Hid ((l[k] == x) = true → (l.any fun y => x == y) = true) := fun h => List.any_eq_true.2 ⟨l[k], List.getElem_mem hlt, by rw [beq_iff_eq] at h ⊢; exact h.symm⟩
      have HY : Hid ((l[k] == x) = false → ∀ j (hj : j < k + 1) (hjl : j < l.length), (l[j] == x) = false) := fun h j hj hjl => by
        by_cases e : j = k
        · subst e; exact h
        · exact NO.out j (by omega) hjl
      generalize l[k] = y at *
      cases ht : (y == x) with
      | true =>
        have HXX : Hid ((l.any fun y => x == y) = true) := HX.out ht
        clear HX HY
        go_wp2_with fail
        go_ret
        exact ⟨by (rw [HXX.out]; rfl), rfl⟩
      | false =>
        have HYY : Hid _ := HY.out ht
        clear HX HY
        go_wp2_with fail
        go_roundg (gk - 1)
        case measure => omega
        case rel => exact ⟨k + 1, by omega, by go_num, rfl, HYY.out⟩
    · obtain rfl : k = l.length := by omega
      have HZ : Hid ((l.any fun y => x == y) = false) := by
        show _ = _
        rw [List.any_eq_false]
        intro y hy
        obtain ⟨j, hj, rfl⟩ := List.mem_iff_getElem.1 hy
        have := NO.out j hj hj
        simp at this ⊢
        exact fun h => this h.symm
      clear hlt
      go_wp2_with fail
      go_ret
      exact ⟨by (rw [HZ.out]; rfl), rfl⟩
end Go.Proofs.YtflabehlaiocaaaDoor
