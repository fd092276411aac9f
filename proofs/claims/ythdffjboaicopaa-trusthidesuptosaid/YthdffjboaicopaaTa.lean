/- Lists of numbers and of texts; what is asked of places. -/
import Derived.Test.YthdffjboaicopaaAid
set_option linter.unusedSimpArgs false
set_option linter.unusedVariables false
set_option maxRecDepth 100000
namespace Go.Proofs.Ythdffjboaicopaa
open Go.RowKit Go.Deep Go.PlainAid

theorem cell_lt {w : World} {b o : Nat} {v : Value} (h : w.cell? ⟨b, o, none⟩ = some v) : b < w.heap.size := World.block_lt_of_cell? _ _ h
theorem cell_keep {w w' : World} {b o : Nat} {v : Value} (h : w.cell? ⟨b, o, none⟩ = some v) (hb : Below w.heap.size w w') : w'.cell? ⟨b, o, none⟩ = some v := (World.cell?_of_block (a := ⟨b, o, none⟩) (hb.block b (cell_lt h))).trans h
theorem IHolds.new' (w : World) (t : TypeId) (l : List Value) {b : Nat} (h : w.heap.size = b) : IHolds (w.alloc (.cells l.toArray t)) b t l := by subst h; exact IHolds.new w t l
theorem hmfun : ∀ (fn : Fn) (first cap : Array Value) (w : World), (Instr.makeFunc fn first cap).run Try.prog w = .ok (.func fn first cap) w := fun _ _ _ _ => rfl
/-- A list of texts. -/
def SL (w : World) (a : Option Addr) (l : List ByteArray) : Prop := ∀ i (h : i < l.length), ∃ b o, a = some ⟨b, o, none⟩ ∧ w.cell? ⟨b, o + i, none⟩ = some (.string l[i])
theorem SL.of_below {w w' : World} {a : Option Addr} {l : List ByteArray} (h : SL w a l) (hb : Below w.heap.size w w') : SL w' a l := by
  intro i hi
  obtain ⟨b, o, e, hc⟩ := h i hi
  exact ⟨b, o, e, cell_keep hc hb⟩
/-- A list of numbers. -/
def IL (w : World) (a : Option Addr) (l : List Int) : Prop := ∀ i (h : i < l.length), ∃ b o, a = some ⟨b, o, none⟩ ∧ w.cell? ⟨b, o + i, none⟩ = some (.int .i64 l[i])
theorem IL.of_below {w w' : World} {a : Option Addr} {l : List Int} (h : IL w a l) (hb : Below w.heap.size w w') : IL w' a l := by
  intro i hi
  obtain ⟨b, o, e, hc⟩ := h i hi
  exact ⟨b, o, e, cell_keep hc hb⟩
theorem IL.take {w : World} {a : Option Addr} {l : List Int} (h : IL w a l) (n : Nat) : IL w a (l.take n) := by
  intro i hi
  obtain ⟨b, o, e, hc⟩ := h i (by simp at hi; omega)
  exact ⟨b, o, e, by rw [List.getElem_take]; exact hc⟩
theorem any_take {α : Type} (p : α → Bool) {l : List α} {i : Nat} (h : i < l.length) : (l.take (i + 1)).any p = ((l.take i).any p || p l[i]) := by
  rw [List.take_succ_eq_append_getElem h, List.any_append, List.any_cons, List.any_nil, Bool.or_false]
theorem any_of {α : Type} (p : α → Bool) {l : List α} {i : Nat} (h : i < l.length) (hp : p l[i] = true) : l.any p = true := by
  rw [List.any_eq_true]; exact ⟨l[i], List.getElem_mem h, hp⟩
/-- No place. -/
def nop (x : Int) : Bool := decide (x < 0) || decide (255 < x)
theorem noPlace7 {w : World} (x : Int) : Calls Try.prog 7 #[.int .i64 x] w fun e w' => e = .returned (.bool (nop x)) ∧ Below w.heap.size w w' := by
  unfold nop
  by_cases h : x < 0
  · go_enter Try.func7, Try.ntmps7
    go_wp2_with fail
    go_ret
    exact ⟨by simp [h], Below.refl _ _⟩
  · have hd : decide (x < 0) = false := decide_eq_false h
    go_enter Try.func7, Try.ntmps7
    go_wp2_with fail
    go_ret
    exact ⟨by first | rfl | (rw [hd]; simp), Below.refl _ _⟩
set_option maxHeartbeats 1000000 in
theorem index19 {w : World} {a : Option Addr} {l : List Int} {c : Nat} {z : Int} (p : Int → Bool) (hl : l.length ≤ 9223372036854775807) (hs : IL w a l)
    (CN : ∀ s W, Calls Try.prog 7 #[.int .i64 s] W fun e w' => e = .returned (.bool (p s)) ∧ Below W.heap.size W w') :
    Calls Try.prog 19 #[.slice a l.length c, .func (.func 7) #[] #[]] w fun e w' => (∃ r : Int, e = .returned (.int .i64 r) ∧ (decide (0 ≤ r)) = l.any p) ∧ Below w.heap.size w w' := by
  have HS : Hid (IL w a l) := hs
  have HL : Hid (l.length ≤ 9223372036854775807) := hl
  clear hs
  go_enter Try.func19, Try.ntmps19
  go_wp2_with fail
  go_loopg [5, 8] l.length (fun gk v5 v8 wr => ∃ i : Nat, i + gk = l.length ∧ v8 = .int .i64 (i : Int) ∧ Below w.heap.size w wr ∧ (l.take i).any p = false)
  case atStart => exact ⟨0, by omega, rfl, Below.refl _ _, by simp⟩
  case round =>
    obtain ⟨i, hig, rfl, hB, hn⟩ := hrel
    have B : Hid (Below w.heap.size w wr) := hB
    have HN : Hid ((l.take i).any p = false) := hn
    clear hB hn
    by_cases hi : i < l.length
    · obtain ⟨b, o, rfl, hc⟩ := HS.out.of_below B.out i hi
      have il : (i : Int) < (l.length : Int) := by omega
      have hcall := CN l[i]
      have HT : Hid _ := any_take p hi
      have HO : Hid _ := any_of p hi
      generalize l[i] = s at *
      cases hp : p s with
      | true =>
        rw [hp] at hcall
        go_wp2_with (go_at_call 7; refine (hcall _).mono ?_; rintro e w3 ⟨rfl, hB3⟩)
        go_ret
        exact ⟨⟨_, rfl, by rw [HO.out hp]; simp⟩, B.out.trans (hB3.mono B.out.size)⟩
      | false =>
        rw [hp] at hcall
        go_wp2_with (go_at_call 7; refine (hcall _).mono ?_; rintro e w3 ⟨rfl, hB3⟩)
        go_roundg (gk - 1)
        case measure => omega
        case rel => exact ⟨i + 1, by omega, by go_num, B.out.trans (hB3.mono B.out.size), by rw [HT.out, HN.out, hp]; rfl⟩
    · have il : ¬ (i : Int) < (l.length : Int) := by omega
      have e : i = l.length := by omega
      have hn := HN.out
      rw [e, List.take_length] at hn
      clear e
      go_wp2_with fail
      go_ret
      exact ⟨⟨_, rfl, by first | (rw [hn]; decide) | decide⟩, B.out⟩
theorem contains10 {w : World} {a : Option Addr} {l : List Int} {c : Nat} {z : Int} (p : Int → Bool) (hl : l.length ≤ 9223372036854775807) (hs : IL w a l)
    (CN : ∀ s W, Calls Try.prog 7 #[.int .i64 s] W fun e w' => e = .returned (.bool (p s)) ∧ Below W.heap.size W w') :
    Calls Try.prog 10 #[.slice a l.length c, .func (.func 7) #[] #[]] w fun e w' => e = .returned (.bool (l.any p)) ∧ Below w.heap.size w w' := by
  have h := index19 (c := c) (z := z) p hl hs CN
  clear hs CN
  generalize l.any p = t at *
  go_enter Try.func10, Try.ntmps10
  go_wp2_with (go_at_call 19; refine h.mono ?_; rintro e w1 ⟨⟨r, rfl, hr⟩, hB1⟩)
  go_ret
  exact ⟨by rw [← hr]; rfl, hB1⟩
set_option maxHeartbeats 1000000 in
theorem index21 {w : World} {a : Option Addr} {l : List ByteArray} {c : Nat} {z : Int} (p : ByteArray → Bool) (hl : l.length ≤ 9223372036854775807) (hs : SL w a l)
    (CN : ∀ s W, Calls Try.prog 13 #[.agg #[.int .i64 z], .string s] W fun e w' => e = .returned (.bool (p s)) ∧ Below W.heap.size W w') :
    Calls Try.prog 21 #[.slice a l.length c, .func (.func 13) #[.agg #[.int .i64 z]] #[]] w fun e w' => (∃ r : Int, e = .returned (.int .i64 r) ∧ (decide (0 ≤ r)) = l.any p) ∧ Below w.heap.size w w' := by
  have HS : Hid (SL w a l) := hs
  have HL : Hid (l.length ≤ 9223372036854775807) := hl
  clear hs
  go_enter Try.func21, Try.ntmps21
  go_wp2_with fail
  go_loopg [5, 8] l.length (fun gk v5 v8 wr => ∃ i : Nat, i + gk = l.length ∧ v8 = .int .i64 (i : Int) ∧ Below w.heap.size w wr ∧ (l.take i).any p = false)
  case atStart => exact ⟨0, by omega, rfl, Below.refl _ _, by simp⟩
  case round =>
    obtain ⟨i, hig, rfl, hB, hn⟩ := hrel
    have B : Hid (Below w.heap.size w wr) := hB
    have HN : Hid ((l.take i).any p = false) := hn
    clear hB hn
    by_cases hi : i < l.length
    · obtain ⟨b, o, rfl, hc⟩ := HS.out.of_below B.out i hi
      have il : (i : Int) < (l.length : Int) := by omega
      have hcall := CN l[i]
      have HT : Hid _ := any_take p hi
      have HO : Hid _ := any_of p hi
      generalize l[i] = s at *
      cases hp : p s with
      | true =>
        rw [hp] at hcall
        go_wp2_with (go_at_call 13; refine (hcall _).mono ?_; rintro e w3 ⟨rfl, hB3⟩)
        go_ret
        exact ⟨⟨_, rfl, by rw [HO.out hp]; simp⟩, B.out.trans (hB3.mono B.out.size)⟩
      | false =>
        rw [hp] at hcall
        go_wp2_with (go_at_call 13; refine (hcall _).mono ?_; rintro e w3 ⟨rfl, hB3⟩)
        go_roundg (gk - 1)
        case measure => omega
        case rel => exact ⟨i + 1, by omega, by go_num, B.out.trans (hB3.mono B.out.size), by rw [HT.out, HN.out, hp]; rfl⟩
    · have il : ¬ (i : Int) < (l.length : Int) := by omega
      have e : i = l.length := by omega
      have hn := HN.out
      rw [e, List.take_length] at hn
      clear e
      go_wp2_with fail
      go_ret
      exact ⟨⟨_, rfl, by first | (rw [hn]; decide) | decide⟩, B.out⟩
theorem contains12 {w : World} {a : Option Addr} {l : List ByteArray} {c : Nat} {z : Int} (p : ByteArray → Bool) (hl : l.length ≤ 9223372036854775807) (hs : SL w a l)
    (CN : ∀ s W, Calls Try.prog 13 #[.agg #[.int .i64 z], .string s] W fun e w' => e = .returned (.bool (p s)) ∧ Below W.heap.size W w') :
    Calls Try.prog 12 #[.slice a l.length c, .func (.func 13) #[.agg #[.int .i64 z]] #[]] w fun e w' => e = .returned (.bool (l.any p)) ∧ Below w.heap.size w w' := by
  have h := index21 (c := c) (z := z) p hl hs CN
  clear hs CN
  generalize l.any p = t at *
  go_enter Try.func12, Try.ntmps12
  go_wp2_with (go_at_call 21; refine h.mono ?_; rintro e w1 ⟨⟨r, rfl, hr⟩, hB1⟩)
  go_ret
  exact ⟨by rw [← hr]; rfl, hB1⟩
set_option maxHeartbeats 1000000 in
theorem index29 {w : World} {a : Option Addr} {l : List Int} {c : Nat} (x : Int) (hl : l.length ≤ 9223372036854775807) (hs : IL w a l) :
    Calls Try.prog 29 #[.slice a l.length c, .int .i64 x] w fun e w' => (∃ r : Int, e = .returned (.int .i64 r) ∧ (decide (0 ≤ r)) = l.any (fun y => x == y)) ∧ w' = w := by
  have HS : Hid (IL w a l) := hs
  have HL : Hid (l.length ≤ 9223372036854775807) := hl
  clear hs
  go_enter Try.func29, Try.ntmps29
  go_wp2_with fail
  go_loopg [5, 8] l.length (fun gk v5 v8 wr => ∃ i : Nat, i + gk = l.length ∧ v8 = .int .i64 (i : Int) ∧ wr = w ∧ (l.take i).any (fun y => x == y) = false)
  case atStart => exact ⟨0, by omega, rfl, rfl, by simp⟩
  case round =>
    obtain ⟨i, hig, rfl, rfl, hn⟩ := hrel
    have HN : Hid ((l.take i).any (fun y => x == y) = false) := hn
    clear hn
    by_cases hi : i < l.length
    · obtain ⟨b, o, rfl, hc⟩ := HS.out i hi
      have il : (i : Int) < (l.length : Int) := by omega
      have HT : Hid _ := any_take (fun y => x == y) hi
      have HO : Hid _ := any_of (fun y => x == y) hi
      generalize l[i] = s at *
      cases hp : (x == s) with
      | true =>
        go_wp2_with fail
        go_ret
        exact ⟨⟨_, rfl, by rw [HO.out hp]; simp⟩, rfl⟩
      | false =>
        go_wp2_with fail
        go_roundg (gk - 1)
        case measure => omega
        case rel => exact ⟨i + 1, by omega, by go_num, rfl, by rw [HT.out, HN.out, hp]; rfl⟩
    · have il : ¬ (i : Int) < (l.length : Int) := by omega
      have e : i = l.length := by omega
      have hn := HN.out
      rw [e, List.take_length] at hn
      clear e
      go_wp2_with fail
      go_ret
      exact ⟨⟨_, rfl, by first | (rw [hn]; decide) | decide⟩, rfl⟩
theorem contains20 {w : World} {a : Option Addr} {l : List Int} {c : Nat} (x : Int) (hl : l.length ≤ 9223372036854775807) (hs : IL w a l) :
    Calls Try.prog 20 #[.slice a l.length c, .int .i64 x] w fun e w' => e = .returned (.bool (l.any (fun y => x == y))) ∧ w' = w := by
  have h := index29 (c := c) x hl hs
  clear hs
  generalize l.any (fun y => x == y) = t at *
  go_enter Try.func20, Try.ntmps20
  go_wp2_with (go_at_call 29; refine h.mono ?_; rintro e w1 ⟨⟨r, rfl, hr⟩, rfl⟩)
  go_ret
  exact ⟨by rw [← hr]; rfl, rfl⟩
/-- Whether two are the same. -/
def tw : List Int → Bool
  | [] => false
  | a :: l => tw l || l.any (fun y => a == y)
def twi (l : List Int) (i : Nat) : Bool := (List.range i).any fun j => (l.take j).any (fun y => (l.getD j 0) == y)
theorem twi_step (l : List Int) (i : Nat) : twi l (i + 1) = (twi l i || (l.take i).any (fun y => (l.getD i 0) == y)) := by
  unfold twi
  rw [List.range_succ, List.any_append]
  simp
theorem twi_of {l : List Int} {i : Nat} (hi : i < l.length) (h : (l.take i).any (fun y => (l.getD i 0) == y) = true) : twi l l.length = true := by
  unfold twi
  rw [List.any_eq_true]
  exact ⟨i, List.mem_range.2 hi, h⟩
set_option maxHeartbeats 1000000 in
theorem twice11 {w : World} {a : Option Addr} {l : List Int} {c : Nat} (hl : l.length ≤ 16) (hcap : l.length ≤ c) (hc9 : c ≤ 9223372036854775807) (hs : IL w a l) :
    Calls Try.prog 11 #[.slice a l.length c] w fun e w' => e = .returned (.bool (twi l l.length)) ∧ w' = w := by
  have HS : Hid (IL w a l) := hs
  clear hs
  go_enter Try.func11, Try.ntmps11
  go_wp2_with fail
  go_loopg [3, 4, 7] l.length (fun gk v3 v4 v7 wr => ∃ i : Nat, i + gk = l.length ∧ v7 = .int .i64 (i : Int) ∧ wr = w ∧ twi l i = false)
  case atStart => exact ⟨0, by omega, rfl, rfl, rfl⟩
  case round =>
    obtain ⟨i, hig, rfl, rfl, hn⟩ := hrel
    have HN : Hid (twi l i = false) := hn
    clear hn
    by_cases hi : i < l.length
    · have hcall := contains20 (c := c) (l.getD i 0) (by simp; omega) (HS.out.take i)
      obtain ⟨b, o, rfl, hc⟩ := HS.out i hi
      have il : (i : Int) < (l.length : Int) := by omega
      have ic : i ≤ c := by omega
      have HT : Hid _ := twi_step l i
      have HO : Hid _ := twi_of hi
      have e : l.getD i 0 = l[i] := by simp [List.getD, hi]
      have el : (l.take i).length = i := by simp; omega
      rw [el] at hcall
      rw [e] at hcall HT HO
      clear e el
      generalize l[i] = s at *
      cases hp : (l.take i).any (fun y => s == y) with
      | true =>
        rw [hp] at hcall
        have HZ : Hid (twi l l.length = true) := HO.out hp
        clear HT HO hp
        go_wp2_with (go_at_call 20; refine hcall.mono ?_; rintro e w3 ⟨rfl, rfl⟩)
        go_ret
        exact ⟨by rw [HZ.out]; rfl, rfl⟩
      | false =>
        rw [hp] at hcall
        have HZ : Hid (twi l (i + 1) = false) := by show _ = _; rw [HT.out, HN.out, hp]; rfl
        clear HT HO hp
        go_wp2_with (go_at_call 20; refine hcall.mono ?_; rintro e w3 ⟨rfl, rfl⟩)
        go_roundg (gk - 1)
        case measure => omega
        case rel => exact ⟨i + 1, by omega, by go_num, rfl, HZ.out⟩
    · have il : ¬ (i : Int) < (l.length : Int) := by omega
      have e : i = l.length := by omega
      have HZ : Hid (twi l l.length = false) := by have h := HN.out; rw [e] at h; exact h
      clear e
      go_wp2_with fail
      go_ret
      exact ⟨by rw [HZ.out]; rfl, rfl⟩
end Go.Proofs.Ythdffjboaicopaa
