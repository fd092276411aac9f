/- Small functions of Pairs. -/
import Derived.Test.YtcdmndcpjememaaQe
set_option linter.unusedSimpArgs false
set_option linter.unusedVariables false
set_option maxRecDepth 100000
namespace Go.Proofs.Ytcdmndcpjememaa
open Go.RowKit Go.Deep Go.PlainAid

/-- What is wrong with a contest. -/
noncomputable def wc (n : Nat) (r s : Int) : Int := if (1 ≤ n ∧ n ≤ 12) ∧ (1 ≤ r ∧ r ≤ 4) ∧ (1 ≤ s ∧ s ≤ n) then 0 else 2
theorem noRule33 (r : Int) (w : World) : Calls Try.prog 33 #[.int .i64 r] w fun e w' => e = .returned (.bool (decide (¬ (1 ≤ r ∧ r ≤ 4)))) ∧ w' = w := by
  by_cases h1 : r < 1
  · have e : Hid (decide (¬ (1 ≤ r ∧ r ≤ 4)) = true) := decide_eq_true (by omega)
    generalize decide (¬ (1 ≤ r ∧ r ≤ 4)) = q at *
    go_enter Try.func33, Try.ntmps33
    go_wp2_with fail
    go_ret
    exact ⟨by rw [e.out]; rfl, rfl⟩
  · by_cases h2 : 4 < r
    · have e : Hid (decide (¬ (1 ≤ r ∧ r ≤ 4)) = true) := decide_eq_true (by omega)
      generalize decide (¬ (1 ≤ r ∧ r ≤ 4)) = q at *
      go_enter Try.func33, Try.ntmps33
      go_wp2_with fail
      go_ret
      exact ⟨by rw [e.out]; rfl, rfl⟩
    · have e : Hid (decide (¬ (1 ≤ r ∧ r ≤ 4)) = false) := decide_eq_false (by omega)
      generalize decide (¬ (1 ≤ r ∧ r ≤ 4)) = q at *
      go_enter Try.func33, Try.ntmps33
      go_wp2_with fail
      go_ret
      exact ⟨by rw [e.out]; rfl, rfl⟩
set_option maxHeartbeats 1000000 in
theorem wrong22 (nm : ByteArray) (a : Option Addr) (n c : Nat) (r s m : Int) (w : World) : Calls Try.prog 22 #[CV nm a n c r s m] w fun e w' => e = .returned (.int .i64 (wc n r s)) ∧ Below w.heap.size w w' := by
  have B : Hid (Below w.heap.size w (w.alloc (.cells #[.string nm, .slice a n c, .int .i64 r, .int .i64 s, .int .i64 m] 24))) := (Below.refl _ _).alloc (Nat.le_refl _) _
  have H33 : Hid (∀ W, Calls Try.prog 33 #[.int .i64 r] W fun e w' => e = .returned (.bool (decide (¬ (1 ≤ r ∧ r ≤ 4)))) ∧ w' = W) := noRule33 r
  unfold CV
  by_cases g0 : (n : Int) < 1
  · have e : Hid (wc n r s = 2) := by show _ = _; rw [wc, if_neg (by omega)]
    generalize wc n r s = V at *
    go_enter Try.func22, Try.ntmps22
    go_wp2_with (first | (go_at_call 33; refine (H33.out _).mono ?_; rintro e w1 ⟨rfl, h1⟩; obtain rfl := h1.symm) | fail)
    go_ret
    exact ⟨by rw [e.out]; rfl, B.out⟩
  by_cases g1 : (12 : Int) < (n : Int)
  · have e : Hid (wc n r s = 2) := by show _ = _; rw [wc, if_neg (by omega)]
    generalize wc n r s = V at *
    go_enter Try.func22, Try.ntmps22
    go_wp2_with (first | (go_at_call 33; refine (H33.out _).mono ?_; rintro e w1 ⟨rfl, h1⟩; obtain rfl := h1.symm) | fail)
    go_ret
    exact ⟨by rw [e.out]; rfl, B.out⟩
  by_cases g2 : ¬ (1 ≤ r ∧ r ≤ 4)
  · rw [decide_eq_true g2] at H33
    have e : Hid (wc n r s = 2) := by show _ = _; rw [wc, if_neg (by omega)]
    generalize wc n r s = V at *
    go_enter Try.func22, Try.ntmps22
    go_wp2_with (first | (go_at_call 33; refine (H33.out _).mono ?_; rintro e w1 ⟨rfl, h1⟩; obtain rfl := h1.symm) | fail)
    go_ret
    exact ⟨by rw [e.out]; rfl, B.out⟩
  rw [decide_eq_false g2] at H33
  by_cases g3 : s < 1
  · have e : Hid (wc n r s = 2) := by show _ = _; rw [wc, if_neg (by omega)]
    generalize wc n r s = V at *
    go_enter Try.func22, Try.ntmps22
    go_wp2_with (first | (go_at_call 33; refine (H33.out _).mono ?_; rintro e w1 ⟨rfl, h1⟩; obtain rfl := h1.symm) | fail)
    go_ret
    exact ⟨by rw [e.out]; rfl, B.out⟩
  by_cases g4 : (n : Int) < s
  · have e : Hid (wc n r s = 2) := by show _ = _; rw [wc, if_neg (by omega)]
    generalize wc n r s = V at *
    go_enter Try.func22, Try.ntmps22
    go_wp2_with (first | (go_at_call 33; refine (H33.out _).mono ?_; rintro e w1 ⟨rfl, h1⟩; obtain rfl := h1.symm) | fail)
    go_ret
    exact ⟨by rw [e.out]; rfl, B.out⟩
  have e : Hid (wc n r s = 0) := by show _ = _; rw [wc, if_pos (by omega)]
  generalize wc n r s = V at *
  go_enter Try.func22, Try.ntmps22
  go_wp2_with (first | (go_at_call 33; refine (H33.out _).mono ?_; rintro e w1 ⟨rfl, h1⟩; obtain rfl := h1.symm) | fail)
  go_ret
  exact ⟨by rw [e.out]; rfl, B.out⟩
set_option maxHeartbeats 1000000 in
theorem wrong14 (nm : ByteArray) (a : Option Addr) (n c : Nat) (r s m : Int) (w : World) : Calls Try.prog 14 #[CV nm a n c r s m] w fun e w' => e = .returned (.int .i64 (wc n r s)) ∧ Below w.heap.size w w' := by
  have B : Hid (Below w.heap.size w (w.alloc (.cells #[.string nm, .slice a n c, .int .i64 r, .int .i64 s, .int .i64 m] 24))) := (Below.refl _ _).alloc (Nat.le_refl _) _
  have H33 : Hid (∀ W, Calls Try.prog 33 #[.int .i64 r] W fun e w' => e = .returned (.bool (decide (¬ (1 ≤ r ∧ r ≤ 4)))) ∧ w' = W) := noRule33 r
  unfold CV
  by_cases g0 : (n : Int) < 1
  · have e : Hid (wc n r s = 2) := by show _ = _; rw [wc, if_neg (by omega)]
    generalize wc n r s = V at *
    go_enter Try.func14, Try.ntmps14
    go_wp2_with fail
    go_ret
    exact ⟨by rw [e.out]; rfl, B.out⟩
  by_cases g1 : (12 : Int) < (n : Int)
  · have e : Hid (wc n r s = 2) := by show _ = _; rw [wc, if_neg (by omega)]
    generalize wc n r s = V at *
    go_enter Try.func14, Try.ntmps14
    go_wp2_with fail
    go_ret
    exact ⟨by rw [e.out]; rfl, B.out⟩
  by_cases g2 : r < 1
  · have e : Hid (wc n r s = 2) := by show _ = _; rw [wc, if_neg (by omega)]
    generalize wc n r s = V at *
    go_enter Try.func14, Try.ntmps14
    go_wp2_with fail
    go_ret
    exact ⟨by rw [e.out]; rfl, B.out⟩
  by_cases g3 : 4 < r
  · have e : Hid (wc n r s = 2) := by show _ = _; rw [wc, if_neg (by omega)]
    generalize wc n r s = V at *
    go_enter Try.func14, Try.ntmps14
    go_wp2_with fail
    go_ret
    exact ⟨by rw [e.out]; rfl, B.out⟩
  by_cases g4 : s < 1
  · have e : Hid (wc n r s = 2) := by show _ = _; rw [wc, if_neg (by omega)]
    generalize wc n r s = V at *
    go_enter Try.func14, Try.ntmps14
    go_wp2_with fail
    go_ret
    exact ⟨by rw [e.out]; rfl, B.out⟩
  by_cases g5 : (n : Int) < s
  · have e : Hid (wc n r s = 2) := by show _ = _; rw [wc, if_neg (by omega)]
    generalize wc n r s = V at *
    go_enter Try.func14, Try.ntmps14
    go_wp2_with fail
    go_ret
    exact ⟨by rw [e.out]; rfl, B.out⟩
  have e : Hid (wc n r s = 0) := by show _ = _; rw [wc, if_pos (by omega)]
  generalize wc n r s = V at *
  go_enter Try.func14, Try.ntmps14
  go_wp2_with fail
  go_ret
  exact ⟨by rw [e.out]; rfl, B.out⟩

theorem wc_two {n : Nat} {r s : Int} (h : wc n r s ≠ 0) : wc n r s = 2 := by
  unfold wc at h ⊢
  split at h
  · omega
  · rename_i q; rw [if_neg q]
theorem wc_fits {n : Nat} {r s : Int} (h : wc n r s = 0) : (1 ≤ n ∧ n ≤ 12) ∧ (1 ≤ r ∧ r ≤ 4) ∧ 1 ≤ s ∧ s ≤ n := by
  unfold wc at h
  split at h
  · assumption
  · omega
theorem above36 (x : Int) (w : World) : Calls Try.prog 36 #[.int .i64 x] w fun e w' => e = .returned (.bool (decide (0 < x))) ∧ w' = w := by
  go_enter Try.func36, Try.ntmps36
  go_wp2_with fail
  go_ret
  exact ⟨rfl, rfl⟩
set_option maxHeartbeats 1000000 in
theorem index42 {w : World} {a : Option Addr} {n c : Nat} {l : List Int} (hl : l.length = n) (h9 : n ≤ 4096) (hL : IL w a l) :
    Calls Try.prog 42 #[.slice a n c, .func (.func 36) #[] #[]] w fun e w' => (∃ z : Int, e = .returned (.int .i64 z) ∧ decide (0 ≤ z) = l.any (fun x => decide (0 < x))) ∧ Below w.heap.size w w' := by
  have HL : Hid (IL w a l) := hL
  have H : Hid (∀ x W, Calls Try.prog 36 #[.int .i64 x] W fun e w' => e = .returned (.bool (decide (0 < x))) ∧ w' = W) := above36
  clear hL
  go_enter Try.func42, Try.ntmps42
  go_wp2_with fail
  go_loopg [5, 8] n (fun gk v5 v8 wr => ∃ i : Nat, i + gk = n ∧ v8 = .int .i64 (i : Int) ∧ (∀ x ∈ l.take i, ¬ 0 < x) ∧ Below w.heap.size w wr)
  case atStart => exact ⟨0, by omega, rfl, by simp, Below.refl _ _⟩
  case round =>
    obtain ⟨i, hig, rfl, hx, hB⟩ := hrel
    have HX : Hid (∀ x ∈ l.take i, ¬ 0 < x) := hx
    have B : Hid (Below w.heap.size w wr) := hB
    clear hx hB
    by_cases hi : i < n
    · have il : (i : Int) < (n : Int) := by omega
      have hi2 : i < l.length := by omega
      obtain ⟨b, o, rfl, q⟩ := HL.out.of_below B.out i hi2
      have HM : Hid (l[i] ∈ l) := List.getElem_mem hi2
      have HN : Hid (¬ 0 < l[i] → ∀ x ∈ l.take (i + 1), ¬ 0 < x) := fun h x hx => by
        rw [List.take_succ_eq_append_getElem hi2] at hx
        simp only [List.mem_append, List.mem_singleton] at hx
        rcases hx with hx | rfl
        · exact HX.out x hx
        · exact h
      by_cases he : 0 < l[i]
      · have HT : Hid (l.any (fun x => decide (0 < x)) = true) := List.any_eq_true.2 ⟨_, HM.out, by simpa using he⟩
        have e1 : decide (0 < l[i]) = true := decide_eq_true he
        have C : Hid (∀ W, Calls Try.prog 36 #[.int .i64 l[i]] W fun e w' => e = .returned (.bool true) ∧ w' = W) := fun W => by have := H.out l[i] W; rw [e1] at this; exact this
        clear HN HM HX he e1 H
        generalize l[i] = y at *
        go_wp2_with (go_at_call 36; refine (C.out _).mono ?_; rintro e w1 ⟨rfl, h1⟩; obtain rfl := h1.symm)
        go_ret
        exact ⟨⟨_, rfl, by rw [HT.out]; exact decide_eq_true (by omega)⟩, B.out⟩
      · have HN2 : Hid (∀ x ∈ l.take (i + 1), ¬ 0 < x) := HN.out he
        have e1 : decide (0 < l[i]) = false := decide_eq_false he
        have C : Hid (∀ W, Calls Try.prog 36 #[.int .i64 l[i]] W fun e w' => e = .returned (.bool false) ∧ w' = W) := fun W => by have := H.out l[i] W; rw [e1] at this; exact this
        clear HN HM HX he e1 
        generalize l[i] = y at *
        go_wp2_with (go_at_call 36; refine (C.out _).mono ?_; rintro e w1 ⟨rfl, h1⟩; obtain rfl := h1.symm)
        go_roundg (gk - 1)
        case measure => omega
        case rel => exact ⟨i + 1, by omega, by go_num, HN2.out, B.out⟩
    · have il : ¬ (i : Int) < (n : Int) := by omega
      have HT : Hid (l.any (fun x => decide (0 < x)) = false) := by
        show _ = _
        rw [List.any_eq_false]
        intro x hx
        have := HX.out x (by rw [List.take_of_length_le (by omega)]; exact hx)
        simpa using this
      go_wp2_with fail
      go_ret
      exact ⟨⟨_, rfl, by rw [HT.out]; rfl⟩, B.out⟩
theorem contains35 {w : World} {a : Option Addr} {n c : Nat} {l : List Int} (hl : l.length = n) (h9 : n ≤ 4096) (hL : IL w a l) :
    Calls Try.prog 35 #[.slice a n c, .func (.func 36) #[] #[]] w fun e w' => e = .returned (.bool (l.any (fun x => decide (0 < x)))) ∧ Below w.heap.size w w' := by
  have H : Hid (Calls Try.prog 42 #[.slice a n c, .func (.func 36) #[] #[]] w fun e w' => (∃ z : Int, e = .returned (.int .i64 z) ∧ decide (0 ≤ z) = l.any (fun x => decide (0 < x))) ∧ Below w.heap.size w w') := index42 hl h9 hL
  clear hL
  generalize l.any (fun x => decide (0 < x)) = A at *
  go_enter Try.func35, Try.ntmps35
  go_wp2_with (go_at_call 42; refine H.out.mono ?_; rintro e w1 ⟨⟨z, rfl, hz⟩, hB⟩; have B1 : Hid (Below w.heap.size w w1) := hB; have HZ : Hid (decide (0 ≤ z) = A) := hz; clear hB hz H)
  go_ret
  exact ⟨by rw [← HZ.out]; rfl, B1.out⟩

/-- Is a rank one, and ahead of another one. -/
def ah (x y : Int) : Bool := decide (x ≠ 0 ∧ (y = 0 ∨ x < y))
set_option maxHeartbeats 1000000 in
theorem ahead27 (x y : Int) (w : World) : Calls Try.prog 27 #[.int .i64 x, .int .i64 y] w fun e w' => e = .returned (.bool (ah x y)) ∧ w' = w := by
  by_cases h0 : x = 0
  · have e : Hid (ah x y = false) := decide_eq_false (by simp [h0])
    have e1 : (x != 0) = false := by simp [h0]
    clear h0
    generalize ah x y = z at *
    go_enter Try.func27, Try.ntmps27
    go_wp2_with fail
    go_ret
    exact ⟨by rw [e.out]; rfl, rfl⟩
  · have e1 : (x != 0) = true := by simpa using h0
    by_cases hy : y = 0
    · have e : Hid (ah x y = true) := decide_eq_true ⟨h0, Or.inl hy⟩
      have e2 : (y == 0) = true := by simpa using hy
      clear h0 hy
      generalize ah x y = z at *
      go_enter Try.func27, Try.ntmps27
      go_wp2_with fail
      go_ret
      exact ⟨by rw [e.out]; rfl, rfl⟩
    · have e2 : (y == 0) = false := by simpa using hy
      by_cases hl : x < y
      · have e : Hid (ah x y = true) := decide_eq_true ⟨h0, Or.inr hl⟩
        clear h0 hy
        generalize ah x y = z at *
        go_enter Try.func27, Try.ntmps27
        go_wp2_with fail
        go_ret
        exact ⟨by rw [e.out]; rfl, rfl⟩
      · have e : Hid (ah x y = false) := decide_eq_false (by simp [hy, hl])
        clear h0 hy
        generalize ah x y = z at *
        go_enter Try.func27, Try.ntmps27
        go_wp2_with fail
        go_ret
        exact ⟨by rw [e.out]; rfl, rfl⟩
/-- What is wrong with ballots. -/
def wb (n : Nat) (L : List (List Int)) : Int := if 4096 < L.length then 3 else if L.all (fun b => decide (b.length = n)) then 0 else 2
set_option maxHeartbeats 2000000 in
theorem wrongBallots23 {w : World} {nm : ByteArray} {ca a : Option Addr} {n cc c : Nat} {r s m : Int} {L : List (List Int)} (hs : LL w a L) :
    Calls Try.prog 23 #[CV nm ca n cc r s m, .slice a L.length c] w fun e w' => e = .returned (.int .i64 (wb n L)) ∧ Below w.heap.size w w' := by
  unfold CV
  have B : Hid (Below w.heap.size w (w.alloc (.cells #[.string nm, .slice ca n cc, .int .i64 r, .int .i64 s, .int .i64 m] 24))) := (Below.refl _ _).alloc (Nat.le_refl _) _
  have I0 : Hid (IHolds (w.alloc (.cells #[.string nm, .slice ca n cc, .int .i64 r, .int .i64 s, .int .i64 m] 24)) w.heap.size 24 [.string nm, .slice ca n cc, .int .i64 r, .int .i64 s, .int .i64 m]) := IHolds.new w 24 _
  have HS : Hid (LL w a L) := hs
  clear hs
  by_cases h1 : 4096 < L.length
  · have e : Hid (wb n L = 3) := by show _ = _; unfold wb; rw [if_pos h1]
    have l1 : (4096 : Int) < (L.length : Int) := by omega
    generalize wb n L = V at *
    go_enter Try.func23, Try.ntmps23
    go_wp2_with fail
    go_ret
    exact ⟨by rw [e.out]; rfl, B.out⟩
  · have l1 : ¬ (4096 : Int) < (L.length : Int) := by omega
    have HV : Hid (∀ t, L.all (fun b => decide (b.length = n)) = t → wb n L = if t then 0 else 2) := fun t ht => by unfold wb; rw [if_neg h1, ht]
    generalize wb n L = V at *
    obtain ⟨N, hN⟩ : ∃ N, N = L.length := ⟨_, rfl⟩
    have HN : Hid (N = L.length) := hN
    rw [← hN] at l1 h1 ⊢
    clear hN
    go_enter Try.func23, Try.ntmps23
    go_wp2_with fail
    generalize w.alloc (.cells #[.string nm, .slice ca n cc, .int .i64 r, .int .i64 s, .int .i64 m] 24) = U at *
    go_loopg [6, 12] N (fun gk v6 v12 wr => ∃ i : Nat, i + gk = N ∧ v12 = .int .i64 (i : Int) ∧ (L.take i).all (fun b => decide (b.length = n)) = true ∧ wr = U)
    case atStart => exact ⟨0, by omega, rfl, by simp, rfl⟩
    case round =>
      obtain ⟨i, hig, rfl, hx, rfl⟩ := hrel
      have HX : Hid ((L.take i).all (fun b => decide (b.length = n)) = true) := hx
      clear hx
      by_cases hi : i < N
      · have il : (i : Int) < (N : Int) := by omega
        have hi2 : i < L.length := by rw [← HN.out]; exact hi
        obtain ⟨b, o, a', c', rfl, q1, _⟩ := HS.out.of_below B.out i hi2
        have q2 : wr.cell? ⟨w.heap.size, 1, none⟩ = some (.slice ca n cc) := I0.out.cell 1 (by simp)
        have AT : Hid ((L.take (i + 1)).all (fun b => decide (b.length = n)) = ((L.take i).all (fun b => decide (b.length = n)) && decide (L[i].length = n))) := all_take hi2
        have AN : Hid (decide (L[i].length = n) = false → L.all (fun b => decide (b.length = n)) = false) := fun h => all_no hi2 h
        generalize L[i].length = k at *
        by_cases hk : k = n
        · have e1 : ((k : Int) != (n : Int)) = false := by simp [hk]
          have H1 : Hid ((L.take (i + 1)).all (fun b => decide (b.length = n)) = true) := by show _ = _; rw [AT.out, HX.out, decide_eq_true hk]; rfl
          clear hk AT AN HX
          go_wp2_with fail
          go_roundg (gk - 1)
          case measure => omega
          case rel => exact ⟨i + 1, by omega, by go_num, H1.out, rfl⟩
        · have e1 : ((k : Int) != (n : Int)) = true := by simp; omega
          have e : Hid (V = 2) := HV.out false (AN.out (decide_eq_false hk))
          clear hk AT AN HX HV
          go_wp2_with fail
          go_ret
          exact ⟨by rw [e.out]; rfl, B.out⟩
      · have il : ¬ (i : Int) < (N : Int) := by omega
        have e : Hid (V = 0) := HV.out true (by have z := HX.out; rw [List.take_of_length_le (by rw [← HN.out]; omega)] at z; exact z)
        go_wp2_with fail
        go_ret
        exact ⟨by rw [e.out]; rfl, B.out⟩
end Go.Proofs.Ytcdmndcpjememaa
