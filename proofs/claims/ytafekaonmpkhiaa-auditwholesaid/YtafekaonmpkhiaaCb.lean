/- The custody's small functions, second part. -/
import Derived.Test.YtafekaonmpkhiaaCa
import Derived.Laws.EntriesVeiled
set_option linter.unusedSimpArgs false
set_option linter.unusedVariables false
set_option maxRecDepth 100000
namespace Go.Proofs.Ytafekaonmpkhiaa
open Go.RowKit Go.Deep Go.PlainAid

/-- What happens, as a value. -/
def HV (h : Hd) : Value := .agg #[.int .i64 h.act, .string h.box, .string h.who, .string h.to_, .int .i64 h.cnt, .string h.sl]
/-- How a box stands. -/
def stZ (r : BR) : Int := if r.under ≠ ⟨#[]⟩ then 1 else if r.opn = true then 2 else 0
def bxL (nm : ByteArray) (r : BR) : List Value := [.string nm, .int .i64 r.count, .string r.holder, .string r.sl, .int .i64 (stZ r), .string r.under]
def BV (nm : ByteArray) (r : BR) : Value := .agg (bxL nm r).toArray
def DV (pk : Bool) (st : Int) (gv ct lk : Bool) (f : Nat) : Value := .agg #[.bool pk, .int .i64 st, .bool gv, .bool ct, .bool lk, .func (.func f) #[] #[]]
set_option maxHeartbeats 1000000 in
theorem word28 (s : ByteArray) (hs : s.size ≤ 140737488355328) (w : World) : Calls Try.prog 28 #[.string s] w fun e w' => e = .returned (.bool (wordB s)) ∧ w' = w := by
  have HS : Hid (∀ W, Calls Try.prog 38 #[.string s] W fun e w' => e = .returned (.bool (signsB s)) ∧ w' = W) := signs38 s hs
  unfold wordB
  generalize signsB s = z at *
  by_cases h : s.size ≤ 32
  · have h1 : (s.size : Int) ≤ 32 := by omega
    rw [decide_eq_true h, Bool.true_and]
    go_enter Try.func28, Try.ntmps28
    go_wp2_with (go_at_call 38; refine (HS.out _).mono ?_)
    rintro e w1 ⟨rfl, rfl⟩
    go_wp2_with fail
    go_ret
    exact ⟨rfl, rfl⟩
  · have h1 : ¬ (s.size : Int) ≤ 32 := by omega
    rw [decide_eq_false h, Bool.false_and]
    go_enter Try.func28, Try.ntmps28
    go_wp2_with fail
    go_ret
    exact ⟨rfl, rfl⟩
set_option maxHeartbeats 1000000 in
theorem wordIf29 (b : Bool) (s : ByteArray) (hs : s.size ≤ 140737488355328) (w : World) : Calls Try.prog 29 #[.bool b, .string s] w fun e w' => e = .returned (.bool (wordIfB b s)) ∧ w' = w := by
  have HS : Hid (∀ W, Calls Try.prog 28 #[.string s] W fun e w' => e = .returned (.bool (wordB s)) ∧ w' = W) := word28 s hs
  unfold wordIfB
  cases b with
  | true =>
    simp only [if_true]
    generalize wordB s = z at *
    go_enter Try.func29, Try.ntmps29
    go_wp2_with (go_at_call 28; refine (HS.out _).mono ?_)
    rintro e w1 ⟨rfl, rfl⟩
    go_wp2_with fail
    go_ret
    exact ⟨rfl, rfl⟩
  | false =>
    have e0 := empty_iff s
    cases q : s.toList.isEmpty with
    | true =>
      have HT : Hid (decide (s = ⟨#[]⟩) = true) := decide_eq_true (e0.1 q)
      simp only [Bool.false_eq_true, if_false]
      rw [HT.out]
      clear e0 HT
      go_enter Try.func29, Try.ntmps29
      go_wp2_with fail
      go_ret
      exact ⟨rfl, rfl⟩
    | false =>
      have HT : Hid (decide (s = ⟨#[]⟩) = false) := decide_eq_false fun h => by rw [e0.2 h] at q; cases q
      simp only [Bool.false_eq_true, if_false]
      rw [HT.out]
      clear e0 HT
      go_enter Try.func29, Try.ntmps29
      go_wp2_with fail
      go_ret
      exact ⟨rfl, rfl⟩
set_option maxHeartbeats 1000000 in
theorem within30 (n lo hi : Int) (w : World) : Calls Try.prog 30 #[.int .i64 n, .int .i64 lo, .int .i64 hi] w fun e w' => e = .returned (.bool (decide (lo ≤ n ∧ n ≤ hi))) ∧ w' = w := by
  by_cases h1 : lo ≤ n
  · by_cases h2 : n ≤ hi
    · have HT : Hid (decide (lo ≤ n ∧ n ≤ hi) = true) := decide_eq_true ⟨h1, h2⟩
      rw [HT.out]
      go_enter Try.func30, Try.ntmps30
      go_wp2_with fail
      go_ret
      exact ⟨rfl, rfl⟩
    · have HT : Hid (decide (lo ≤ n ∧ n ≤ hi) = false) := decide_eq_false fun h => h2 h.2
      rw [HT.out]
      go_enter Try.func30, Try.ntmps30
      go_wp2_with fail
      go_ret
      exact ⟨rfl, rfl⟩
  · have HT : Hid (decide (lo ≤ n ∧ n ≤ hi) = false) := decide_eq_false fun h => h1 h.1
    rw [HT.out]
    go_enter Try.func30, Try.ntmps30
    go_wp2_with fail
    go_ret
    exact ⟨rfl, rfl⟩
set_option maxHeartbeats 1000000 in
theorem next31 (nm : ByteArray) (r : BR) (w : World) : Calls Try.prog 31 #[BV nm r] w fun e w' => e = .returned (.string (if stZ r = 1 then r.under else r.holder)) ∧ Below w.heap.size w w' := by
  unfold BV bxL
  generalize r.count = x1 at *
  generalize r.holder = x2 at *
  generalize r.sl = x3 at *
  generalize r.under = x5 at *
  generalize stZ r = x4 at *
  have B : Hid (Below w.heap.size w (w.alloc (.cells #[.string nm, .int .i64 x1, .string x2, .string x3, .int .i64 x4, .string x5] 68))) := (Below.refl _ _).alloc (Nat.le_refl _) _
  by_cases h : x4 = 1
  · rw [if_pos h]
    subst h
    go_enter Try.func31, Try.ntmps31
    go_wp2_with fail
    go_ret
    exact ⟨rfl, B.out⟩
  · rw [if_neg h]
    have h1 : (x4 == 1) = false := by simpa using h
    go_enter Try.func31, Try.ntmps31
    go_wp2_with fail
    go_ret
    exact ⟨rfl, B.out⟩
set_option maxHeartbeats 1000000 in
theorem seals33 (pk : Bool) (st : Int) (gv ct lk : Bool) (f : Nat) (w : World) : Calls Try.prog 33 #[DV pk st gv ct lk f] w fun e w' => e = .returned (.bool (!gv && !lk)) ∧ Below w.heap.size w w' := by
  unfold DV
  have B : Hid (Below w.heap.size w (w.alloc (.cells #[.bool pk, .int .i64 st, .bool gv, .bool ct, .bool lk, .func (.func f) #[] #[]] 51))) := (Below.refl _ _).alloc (Nat.le_refl _) _
  cases gv <;> cases lk <;>
  · go_enter Try.func33, Try.ntmps33
    go_wp2_with fail
    go_ret
    exact ⟨rfl, B.out⟩
def d1 : Value := DV true 0 false true false 23
set_option maxHeartbeats 1000000 in
theorem deed15_1 (w : World) : Calls Try.prog 15 #[.int .i64 1] w fun e w' => e = .returned (.tuple #[d1, .bool true]) ∧ Below w.heap.size w w' := by
  unfold d1 DV
  have SA : Hid (∀ (V : World) (o : Obj), (V.alloc o).heap.size = V.heap.size + 1) := fun V o => by simp
  go_enter Try.func15, Try.ntmps15
  go_wp2_with fail
  exact bodyPost_ret (v := .tuple #[.agg #[.bool true, .int .i64 0, .bool false, .bool true, .bool false, .func (.func 23) #[] #[]], .bool true]) (by simp [results, Try.results15, go_sem]) rfl ⟨rfl, (Below.refl _ _).alloc (Nat.le_refl _) _⟩
def d2 : Value := DV false 0 true false false 24
set_option maxHeartbeats 1000000 in
theorem deed15_2 (w : World) : Calls Try.prog 15 #[.int .i64 2] w fun e w' => e = .returned (.tuple #[d2, .bool true]) ∧ Below w.heap.size w w' := by
  unfold d2 DV
  have SA : Hid (∀ (V : World) (o : Obj), (V.alloc o).heap.size = V.heap.size + 1) := fun V o => by simp
  go_enter Try.func15, Try.ntmps15
  go_wp2_with fail
  exact bodyPost_ret (v := .tuple #[.agg #[.bool false, .int .i64 0, .bool true, .bool false, .bool false, .func (.func 24) #[] #[]], .bool true]) (by simp [results, Try.results15, go_sem]) rfl ⟨rfl, (Below.refl _ _).alloc (Nat.le_refl _) _⟩
def d3 : Value := DV false 1 false false true 25
set_option maxHeartbeats 1000000 in
theorem deed15_3 (w : World) : Calls Try.prog 15 #[.int .i64 3] w fun e w' => e = .returned (.tuple #[d3, .bool true]) ∧ Below w.heap.size w w' := by
  unfold d3 DV
  have SA : Hid (∀ (V : World) (o : Obj), (V.alloc o).heap.size = V.heap.size + 1) := fun V o => by simp
  go_enter Try.func15, Try.ntmps15
  go_wp2_with fail
  exact bodyPost_ret (v := .tuple #[.agg #[.bool false, .int .i64 1, .bool false, .bool false, .bool true, .func (.func 25) #[] #[]], .bool true]) (by simp [results, Try.results15, go_sem]) rfl ⟨rfl, (Below.refl _ _).alloc (Nat.le_refl _) _⟩
def d4 : Value := DV false 0 false true true 26
set_option maxHeartbeats 1000000 in
theorem deed15_4 (w : World) : Calls Try.prog 15 #[.int .i64 4] w fun e w' => e = .returned (.tuple #[d4, .bool true]) ∧ Below w.heap.size w w' := by
  unfold d4 DV
  have SA : Hid (∀ (V : World) (o : Obj), (V.alloc o).heap.size = V.heap.size + 1) := fun V o => by simp
  go_enter Try.func15, Try.ntmps15
  go_wp2_with fail
  exact bodyPost_ret (v := .tuple #[.agg #[.bool false, .int .i64 0, .bool false, .bool true, .bool true, .func (.func 26) #[] #[]], .bool true]) (by simp [results, Try.results15, go_sem]) rfl ⟨rfl, (Below.refl _ _).alloc (Nat.le_refl _) _⟩
def d5 : Value := DV false 2 false true false 27
set_option maxHeartbeats 1000000 in
theorem deed15_5 (w : World) : Calls Try.prog 15 #[.int .i64 5] w fun e w' => e = .returned (.tuple #[d5, .bool true]) ∧ Below w.heap.size w w' := by
  unfold d5 DV
  have SA : Hid (∀ (V : World) (o : Obj), (V.alloc o).heap.size = V.heap.size + 1) := fun V o => by simp
  go_enter Try.func15, Try.ntmps15
  go_wp2_with fail
  exact bodyPost_ret (v := .tuple #[.agg #[.bool false, .int .i64 2, .bool false, .bool true, .bool false, .func (.func 27) #[] #[]], .bool true]) (by simp [results, Try.results15, go_sem]) rfl ⟨rfl, (Below.refl _ _).alloc (Nat.le_refl _) _⟩
end Go.Proofs.Ytafekaonmpkhiaa
