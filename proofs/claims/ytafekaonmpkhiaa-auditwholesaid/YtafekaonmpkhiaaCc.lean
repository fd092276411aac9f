/- The custody's small functions, third part. -/
import Derived.Test.YtafekaonmpkhiaaCb
set_option linter.unusedSimpArgs false
set_option linter.unusedVariables false
set_option maxRecDepth 100000
namespace Go.Proofs.Ytafekaonmpkhiaa
open Go.RowKit Go.Deep Go.PlainAid

theorem six {W : World} {b : Nat} {t : TypeId} {x0 x1 x2 x3 x4 x5 : Value} (h : IHolds W b t [x0, x1, x2, x3, x4, x5]) : W.cell? ⟨b, 0, none⟩ = some x0 ∧ W.cell? ⟨b, 1, none⟩ = some x1 ∧ W.cell? ⟨b, 2, none⟩ = some x2 ∧ W.cell? ⟨b, 3, none⟩ = some x3 ∧ W.cell? ⟨b, 4, none⟩ = some x4 ∧ W.cell? ⟨b, 5, none⟩ = some x5 := ⟨h.cell 0 (by simp), h.cell 1 (by simp), h.cell 2 (by simp), h.cell 3 (by simp), h.cell 4 (by simp), h.cell 5 (by simp)⟩
/-- What there is to be of good size. -/
structure Hs (h : Hd) : Prop where
  b : h.box.size ≤ 140737488355328
  w : h.who.size ≤ 140737488355328
  t : h.to_.size ≤ 140737488355328
  s : h.sl.size ≤ 140737488355328
def mfB (g : Bool) (h : Hd) : Bool := !(wordB h.box && wordB h.who && wordIfB g h.to_ && wordIfB (!g) h.sl)
set_option maxHeartbeats 4000000 in
theorem misfits16 (pk : Bool) (st : Int) (gv ct lk : Bool) (f : Nat) {h : Hd} (hs : Hs h) (w : World) : Calls Try.prog 16 #[DV pk st gv ct lk f, HV h] w fun e w' => e = .returned (.bool (mfB gv h)) ∧ Below w.heap.size w w' := by
  unfold DV HV mfB
  have H1 : Hid (∀ W, Calls Try.prog 28 #[.string h.box] W fun e w' => e = .returned (.bool (wordB h.box)) ∧ w' = W) := word28 _ hs.b
  have H2 : Hid (∀ W, Calls Try.prog 28 #[.string h.who] W fun e w' => e = .returned (.bool (wordB h.who)) ∧ w' = W) := word28 _ hs.w
  have H3 : Hid (∀ W, Calls Try.prog 29 #[.bool gv, .string h.to_] W fun e w' => e = .returned (.bool (wordIfB gv h.to_)) ∧ w' = W) := wordIf29 _ _ hs.t
  have H4 : Hid (∀ W, Calls Try.prog 29 #[.bool (!gv), .string h.sl] W fun e w' => e = .returned (.bool (wordIfB (!gv) h.sl)) ∧ w' = W) := wordIf29 _ _ hs.s
  clear hs
  generalize wordB h.box = b1 at *
  generalize wordB h.who = b2 at *
  generalize wordIfB gv h.to_ = b3 at *
  generalize wordIfB (!gv) h.sl = b4 at *
  generalize h.box = s1 at *
  generalize h.who = s2 at *
  generalize h.to_ = s3 at *
  generalize h.sl = s5 at *
  generalize h.cnt = x4 at *
  generalize h.act = x0 at *
  have B : Hid (Below w.heap.size w ((w.alloc (.cells #[.bool pk, .int .i64 st, .bool gv, .bool ct, .bool lk, .func (.func f) #[] #[]] 51)).alloc (.cells #[.int .i64 x0, .string s1, .string s2, .string s3, .int .i64 x4, .string s5] 26))) := ((Below.refl _ _).alloc (Nat.le_refl _) _).alloc (by simp) _
  have I1 : Hid (IHolds ((w.alloc (.cells #[.bool pk, .int .i64 st, .bool gv, .bool ct, .bool lk, .func (.func f) #[] #[]] 51)).alloc (.cells #[.int .i64 x0, .string s1, .string s2, .string s3, .int .i64 x4, .string s5] 26)) w.heap.size 51 [.bool pk, .int .i64 st, .bool gv, .bool ct, .bool lk, .func (.func f) #[] #[]]) := (IHolds.new w 51 _).alloc _
  have I2 : Hid (IHolds ((w.alloc (.cells #[.bool pk, .int .i64 st, .bool gv, .bool ct, .bool lk, .func (.func f) #[] #[]] 51)).alloc (.cells #[.int .i64 x0, .string s1, .string s2, .string s3, .int .i64 x4, .string s5] 26)) (w.heap.size + 1) 26 [.int .i64 x0, .string s1, .string s2, .string s3, .int .i64 x4, .string s5]) := by
    have q := IHolds.new (w.alloc (.cells #[.bool pk, .int .i64 st, .bool gv, .bool ct, .bool lk, .func (.func f) #[] #[]] 51)) 26 [.int .i64 x0, .string s1, .string s2, .string s3, .int .i64 x4, .string s5]
    rw [World.size_alloc] at q; exact q
  go_enter Try.func16, Try.ntmps16
  go_wp2_with (go_at_call 28; refine (H1.out _).mono ?_)
  rintro e w1 ⟨rfl, rfl⟩
  clear H1
  obtain ⟨q0, q1, q2, q3, q4, q5⟩ := six I2.out
  obtain ⟨p0, p1, p2, p3, p4, p5⟩ := six I1.out
  generalize ((w.alloc (.cells #[.bool pk, .int .i64 st, .bool gv, .bool ct, .bool lk, .func (.func f) #[] #[]] 51)).alloc (.cells #[.int .i64 x0, .string s1, .string s2, .string s3, .int .i64 x4, .string s5] 26)) = U at *
  cases b1 with
  | false =>
    go_wp2_with fail
    go_ret
    exact ⟨rfl, B.out⟩
  | true =>
    go_wp2_with (go_at_call 28; refine (H2.out _).mono ?_)
    rintro e w1 ⟨rfl, rfl⟩
    clear H2
    cases b2 with
    | false =>
      go_wp2_with fail
      go_ret
      exact ⟨rfl, B.out⟩
    | true =>
      go_wp2_with (go_at_call 29; refine (H3.out _).mono ?_)
      rintro e w1 ⟨rfl, rfl⟩
      clear H3
      cases b3 with
      | false =>
        go_wp2_with fail
        go_ret
        exact ⟨rfl, B.out⟩
      | true =>
        go_wp2_with (go_at_call 29; refine (H4.out _).mono ?_)
        rintro e w1 ⟨rfl, rfl⟩
        clear H4
        go_wp2_with fail
        go_ret
        exact ⟨by simp, B.out⟩
def mcB (ct : Bool) (n : Int) : Bool := if ct then decide (¬ (0 ≤ n ∧ n ≤ 1048576)) else decide (n ≠ 0)
set_option maxHeartbeats 2000000 in
theorem miscounts17 (pk : Bool) (st : Int) (gv ct lk : Bool) (f : Nat) (h : Hd) (w : World) : Calls Try.prog 17 #[DV pk st gv ct lk f, HV h] w fun e w' => e = .returned (.bool (mcB ct h.cnt)) ∧ Below w.heap.size w w' := by
  unfold DV HV mcB
  have H1 : Hid (∀ W, Calls Try.prog 30 #[.int .i64 h.cnt, .int .i64 0, .int .i64 1048576] W fun e w' => e = .returned (.bool (decide (0 ≤ h.cnt ∧ h.cnt ≤ 1048576))) ∧ w' = W) := within30 _ _ _
  have E1 : Hid (decide (¬ (0 ≤ h.cnt ∧ h.cnt ≤ 1048576)) = !decide (0 ≤ h.cnt ∧ h.cnt ≤ 1048576)) := by show _ = _; exact decide_not
  rw [E1.out]
  clear E1
  generalize decide (0 ≤ h.cnt ∧ h.cnt ≤ 1048576) = b1 at *
  generalize h.box = s1 at *
  generalize h.who = s2 at *
  generalize h.to_ = s3 at *
  generalize h.sl = s5 at *
  generalize h.cnt = x4 at *
  generalize h.act = x0 at *
  have B : Hid (Below w.heap.size w ((w.alloc (.cells #[.bool pk, .int .i64 st, .bool gv, .bool ct, .bool lk, .func (.func f) #[] #[]] 51)).alloc (.cells #[.int .i64 x0, .string s1, .string s2, .string s3, .int .i64 x4, .string s5] 26))) := ((Below.refl _ _).alloc (Nat.le_refl _) _).alloc (by simp) _
  cases ct with
  | true =>
    go_enter Try.func17, Try.ntmps17
    go_wp2_with (go_at_call 30; refine (H1.out _).mono ?_)
    rintro e w1 ⟨rfl, rfl⟩
    go_wp2_with fail
    go_ret
    exact ⟨rfl, B.out⟩
  | false =>
    by_cases h0 : x4 = 0
    · subst h0
      go_enter Try.func17, Try.ntmps17
      go_wp2_with fail
      go_ret
      exact ⟨rfl, B.out⟩
    · have h1 : (x4 == 0) = false := by simpa using h0
      have h2 : (x4 != 0) = true := by simpa using h0
      have E2 : Hid (decide (x4 ≠ 0) = true) := decide_eq_true h0
      simp only [Bool.false_eq_true, if_false]
      rw [E2.out]
      clear E2
      go_enter Try.func17, Try.ntmps17
      go_wp2_with fail
      go_ret
      exact ⟨rfl, B.out⟩
def dfB (lk ct : Bool) (h : Hd) (r : BR) : Bool := lk && (decide (h.sl ≠ r.sl) || (ct && decide (h.cnt ≠ r.count)))
theorem str_ne {a b : ByteArray} (h : a ≠ b) : (a.toList == b.toList) = false := by
  rw [ByteArray.toList_eq, ByteArray.toList_eq]
  refine beq_eq_false_iff_ne.2 fun e => h ?_
  cases a; cases b
  simp only [ByteArray.mk.injEq]
  exact Array.toList_inj.1 e
set_option maxHeartbeats 4000000 in
theorem differs32 (pk : Bool) (st : Int) (gv ct lk : Bool) (f : Nat) (nm : ByteArray) (r : BR) (h : Hd) (w : World) : Calls Try.prog 32 #[DV pk st gv ct lk f, BV nm r, HV h] w fun e w' => e = .returned (.bool (dfB lk ct h r)) ∧ Below w.heap.size w w' := by
  unfold DV HV BV bxL dfB
  generalize h.box = s1 at *
  generalize h.who = s2 at *
  generalize h.to_ = s3 at *
  generalize h.sl = s5 at *
  generalize h.cnt = x4 at *
  generalize h.act = x0 at *
  generalize r.count = y1 at *
  generalize r.holder = y2 at *
  generalize r.sl = y3 at *
  generalize r.under = y5 at *
  generalize stZ r = y4 at *
  have B : Hid (Below w.heap.size w (((w.alloc (.cells #[.bool pk, .int .i64 st, .bool gv, .bool ct, .bool lk, .func (.func f) #[] #[]] 51)).alloc (.cells #[.string nm, .int .i64 y1, .string y2, .string y3, .int .i64 y4, .string y5] 68)).alloc (.cells #[.int .i64 x0, .string s1, .string s2, .string s3, .int .i64 x4, .string s5] 26))) := (((Below.refl _ _).alloc (Nat.le_refl _) _).alloc (by simp) _).alloc (by simp; omega) _
  cases lk with
  | false =>
    go_enter Try.func32, Try.ntmps32
    go_wp2_with fail
    go_ret
    exact ⟨rfl, B.out⟩
  | true =>
    by_cases e1 : s5 = y3
    · subst e1
      cases ct with
      | false =>
        go_enter Try.func32, Try.ntmps32
        go_wp2_with fail
        go_ret
        exact ⟨by simp, B.out⟩
      | true =>
        by_cases e2 : x4 = y1
        · subst e2
          go_enter Try.func32, Try.ntmps32
          go_wp2_with fail
          go_ret
          exact ⟨by simp, B.out⟩
        · have e3 : (x4 == y1) = false := by simpa using e2
          have E2 : Hid (decide (x4 ≠ y1) = true) := decide_eq_true e2
          rw [E2.out]
          clear E2
          go_enter Try.func32, Try.ntmps32
          go_wp2_with fail
          go_ret
          exact ⟨by simp [e2], B.out⟩
    · have e2 := str_ne e1
      have E2 : Hid (decide (s5 ≠ y3) = true) := decide_eq_true e1
      rw [E2.out]
      clear E2
      go_enter Try.func32, Try.ntmps32
      go_wp2_with fail
      go_ret
      exact ⟨by simp, B.out⟩
end Go.Proofs.Ytafekaonmpkhiaa
