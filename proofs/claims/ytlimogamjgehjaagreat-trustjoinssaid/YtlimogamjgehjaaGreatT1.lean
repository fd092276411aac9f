/- Lists of numbers and of texts; what is asked of places. Trust's ground and places, with what they call. Trust's weights, and what goes through values. Trust's weights, what goes through values, and Through. What goes through values, and Through. -/
import Derived.Test.YtlimogamjgehjaaGreatAid
import Derived.Deep.RegionHeld
set_option linter.unusedSimpArgs false
set_option linter.unusedVariables false
set_option maxRecDepth 100000
namespace Go.Proofs.YtlimogamjgehjaaGreat
open Go.RowKit Go.Deep Go.PlainAid

theorem cell_lt {w : World} {b o : Nat} {v : Value} (h : w.cell? ⟨b, o, none⟩ = some v) : b < w.heap.size := World.block_lt_of_cell? _ _ h
theorem cell_keep {w w' : World} {b o : Nat} {v : Value} (h : w.cell? ⟨b, o, none⟩ = some v) (hb : Below w.heap.size w w') : w'.cell? ⟨b, o, none⟩ = some v := (World.cell?_of_block (a := ⟨b, o, none⟩) (hb.block b (cell_lt h))).trans h
theorem IHolds.new' (w : World) (t : TypeId) (l : List Value) {b : Nat} (h : w.heap.size = b) : IHolds (w.alloc (.cells l.toArray t)) b t l := by subst h; exact IHolds.new w t l
theorem hmfun : ∀ (fn : Fn) (first cap : Array Value) (w : World), (Instr.makeFunc fn first cap).run Tryz.prog w = .ok (.func fn first cap) w := fun _ _ _ _ => rfl
/-- A list of texts. -/
def SL (w : World) (a : Option Addr) (l : List ByteArray) : Prop := ∀ i (h : i < l.length), ∃ b o, a = some ⟨b, o, none⟩ ∧ w.cell? ⟨b, o + i, none⟩ = some (.string l[i])
theorem SL.of_below {w w' : World} {a : Option Addr} {l : List ByteArray} (h : SL w a l) (hb : Below w.heap.size w w') : SL w' a l := by
  intro i hi
  obtain ⟨b, o, e, hc⟩ := h i hi
  exact ⟨b, o, e, cell_keep hc hb⟩
/-- A list of numbers. -/
def IL (w : World) (a : Option Addr) (l : List Int) : Prop := ∀ i (h : i < l.length), ∃ b o, a = some ⟨b, o, none⟩ ∧ w.cell? ⟨b, o + i, none⟩ = some (.int .i64 l[i])
theorem IL.of_below {w w' : World} {a : Option Addr} {l : List Int} (h : IL w a l) (hb : Below w.heap.size w w') : IL w' a l := by
  intro i hi
  obtain ⟨b, o, e, hc⟩ := h i hi
  exact ⟨b, o, e, cell_keep hc hb⟩
theorem IL.take {w : World} {a : Option Addr} {l : List Int} (h : IL w a l) (n : Nat) : IL w a (l.take n) := by
  intro i hi
  obtain ⟨b, o, e, hc⟩ := h i (by simp at hi; omega)
  exact ⟨b, o, e, by rw [List.getElem_take]; exact hc⟩
theorem any_take {α : Type} (p : α → Bool) {l : List α} {i : Nat} (h : i < l.length) : (l.take (i + 1)).any p = ((l.take i).any p || p l[i]) := by
  rw [List.take_succ_eq_append_getElem h, List.any_append, List.any_cons, List.any_nil, Bool.or_false]
theorem any_of {α : Type} (p : α → Bool) {l : List α} {i : Nat} (h : i < l.length) (hp : p l[i] = true) : l.any p = true := by
  rw [List.any_eq_true]; exact ⟨l[i], List.getElem_mem h, hp⟩
/-- No place. -/
def nop (x : Int) : Bool := decide (x < 0) || decide (255 < x)
theorem noPlace7 {w : World} (x : Int) : Calls Tryz.prog 18 #[.int .i64 x] w fun e w' => e = .returned (.bool (nop x)) ∧ Below w.heap.size w w' := by
  unfold nop
  by_cases h : x < 0
  · go_enter Tryz.func18, Tryz.ntmps18
    go_wp2_with fail
    go_ret
    exact ⟨by simp [h], Below.refl _ _⟩
  · have hd : decide (x < 0) = false := decide_eq_false h
    go_enter Tryz.func18, Tryz.ntmps18
    go_wp2_with fail
    go_ret
    exact ⟨by first | rfl | (rw [hd]; simp), Below.refl _ _⟩
set_option maxHeartbeats 1000000 in
theorem index19 {w : World} {a : Option Addr} {l : List Int} {c : Nat} {z : Int} (p : Int → Bool) (hl : l.length ≤ 9223372036854775807) (hs : IL w a l)
    (CN : ∀ s W, Calls Tryz.prog 18 #[.int .i64 s] W fun e w' => e = .returned (.bool (p s)) ∧ Below W.heap.size W w') :
    Calls Tryz.prog 54 #[.slice a l.length c, .func (.func 18) #[] #[]] w fun e w' => (∃ r : Int, e = .returned (.int .i64 r) ∧ (decide (0 ≤ r)) = l.any p) ∧ Below w.heap.size w w' := by
  have HS : Hid (IL w a l) := hs
  have HL : Hid (l.length ≤ 9223372036854775807) := hl
  clear hs
  go_enter Tryz.func54, Tryz.ntmps54
  go_wp2_with fail
  go_loopg [5, 8] l.length (fun gk v5 v8 wr => ∃ i : Nat, i + gk = l.length ∧ v8 = .int .i64 (i : Int) ∧ Below w.heap.size w wr ∧ (l.take i).any p = false)
  case atStart => exact ⟨0, by omega, rfl, Below.refl _ _, by simp⟩
  case round =>
    obtain ⟨i, hig, rfl, hB, hn⟩ := hrel
    have B : Hid (Below w.heap.size w wr) := hB
    have HN : Hid ((l.take i).any p = false) := hn
    clear hB hn
    by_cases hi : i < l.length
    · obtain ⟨b, o, rfl, hc⟩ := HS.out.of_below B.out i hi
      have il : (i : Int) < (l.length : Int) := by omega
      have hcall := CN l[i]
      have HT : Hid _ := any_take p hi
      have HO : Hid _ := any_of p hi
      generalize l[i] = s at *
      cases hp : p s with
      | true =>
        rw [hp] at hcall
        go_wp2_with (go_at_call 18; refine (hcall _).mono ?_; rintro e w3 ⟨rfl, hB3⟩)
        go_ret
        exact ⟨⟨_, rfl, by rw [HO.out hp]; simp⟩, B.out.trans (hB3.mono B.out.size)⟩
      | false =>
        rw [hp] at hcall
        go_wp2_with (go_at_call 18; refine (hcall _).mono ?_; rintro e w3 ⟨rfl, hB3⟩)
        go_roundg (gk - 1)
        case measure => omega
        case rel => exact ⟨i + 1, by omega, by go_num, B.out.trans (hB3.mono B.out.size), by rw [HT.out, HN.out, hp]; rfl⟩
    · have il : ¬ (i : Int) < (l.length : Int) := by omega
      have e : i = l.length := by omega
      have hn := HN.out
      rw [e, List.take_length] at hn
      clear e
      go_wp2_with fail
      go_ret
      exact ⟨⟨_, rfl, by first | (rw [hn]; decide) | decide⟩, B.out⟩
theorem contains10 {w : World} {a : Option Addr} {l : List Int} {c : Nat} {z : Int} (p : Int → Bool) (hl : l.length ≤ 9223372036854775807) (hs : IL w a l)
    (CN : ∀ s W, Calls Tryz.prog 18 #[.int .i64 s] W fun e w' => e = .returned (.bool (p s)) ∧ Below W.heap.size W w') :
    Calls Tryz.prog 30 #[.slice a l.length c, .func (.func 18) #[] #[]] w fun e w' => e = .returned (.bool (l.any p)) ∧ Below w.heap.size w w' := by
  have h := index19 (c := c) (z := z) p hl hs CN
  clear hs CN
  generalize l.any p = t at *
  go_enter Tryz.func30, Tryz.ntmps30
  go_wp2_with (go_at_call 54; refine h.mono ?_; rintro e w1 ⟨⟨r, rfl, hr⟩, hB1⟩)
  go_ret
  exact ⟨by rw [← hr]; rfl, hB1⟩
set_option maxHeartbeats 1000000 in
theorem index21 {w : World} {a : Option Addr} {l : List ByteArray} {c : Nat} {z : Int} (p : ByteArray → Bool) (hl : l.length ≤ 9223372036854775807) (hs : SL w a l)
    (CN : ∀ s W, Calls Tryz.prog 40 #[.agg #[.int .i64 z], .string s] W fun e w' => e = .returned (.bool (p s)) ∧ Below W.heap.size W w') :
    Calls Tryz.prog 58 #[.slice a l.length c, .func (.func 40) #[.agg #[.int .i64 z]] #[]] w fun e w' => (∃ r : Int, e = .returned (.int .i64 r) ∧ (decide (0 ≤ r)) = l.any p) ∧ Below w.heap.size w w' := by
  have HS : Hid (SL w a l) := hs
  have HL : Hid (l.length ≤ 9223372036854775807) := hl
  clear hs
  go_enter Tryz.func58, Tryz.ntmps58
  go_wp2_with fail
  go_loopg [5, 8] l.length (fun gk v5 v8 wr => ∃ i : Nat, i + gk = l.length ∧ v8 = .int .i64 (i : Int) ∧ Below w.heap.size w wr ∧ (l.take i).any p = false)
  case atStart => exact ⟨0, by omega, rfl, Below.refl _ _, by simp⟩
  case round =>
    obtain ⟨i, hig, rfl, hB, hn⟩ := hrel
    have B : Hid (Below w.heap.size w wr) := hB
    have HN : Hid ((l.take i).any p = false) := hn
    clear hB hn
    by_cases hi : i < l.length
    · obtain ⟨b, o, rfl, hc⟩ := HS.out.of_below B.out i hi
      have il : (i : Int) < (l.length : Int) := by omega
      have hcall := CN l[i]
      have HT : Hid _ := any_take p hi
      have HO : Hid _ := any_of p hi
      generalize l[i] = s at *
      cases hp : p s with
      | true =>
        rw [hp] at hcall
        go_wp2_with (go_at_call 40; refine (hcall _).mono ?_; rintro e w3 ⟨rfl, hB3⟩)
        go_ret
        exact ⟨⟨_, rfl, by rw [HO.out hp]; simp⟩, B.out.trans (hB3.mono B.out.size)⟩
      | false =>
        rw [hp] at hcall
        go_wp2_with (go_at_call 40; refine (hcall _).mono ?_; rintro e w3 ⟨rfl, hB3⟩)
        go_roundg (gk - 1)
        case measure => omega
        case rel => exact ⟨i + 1, by omega, by go_num, B.out.trans (hB3.mono B.out.size), by rw [HT.out, HN.out, hp]; rfl⟩
    · have il : ¬ (i : Int) < (l.length : Int) := by omega
      have e : i = l.length := by omega
      have hn := HN.out
      rw [e, List.take_length] at hn
      clear e
      go_wp2_with fail
      go_ret
      exact ⟨⟨_, rfl, by first | (rw [hn]; decide) | decide⟩, B.out⟩
theorem contains12 {w : World} {a : Option Addr} {l : List ByteArray} {c : Nat} {z : Int} (p : ByteArray → Bool) (hl : l.length ≤ 9223372036854775807) (hs : SL w a l)
    (CN : ∀ s W, Calls Tryz.prog 40 #[.agg #[.int .i64 z], .string s] W fun e w' => e = .returned (.bool (p s)) ∧ Below W.heap.size W w') :
    Calls Tryz.prog 39 #[.slice a l.length c, .func (.func 40) #[.agg #[.int .i64 z]] #[]] w fun e w' => e = .returned (.bool (l.any p)) ∧ Below w.heap.size w w' := by
  have h := index21 (c := c) (z := z) p hl hs CN
  clear hs CN
  generalize l.any p = t at *
  go_enter Tryz.func39, Tryz.ntmps39
  go_wp2_with (go_at_call 58; refine h.mono ?_; rintro e w1 ⟨⟨r, rfl, hr⟩, hB1⟩)
  go_ret
  exact ⟨by rw [← hr]; rfl, hB1⟩
set_option maxHeartbeats 1000000 in
theorem index29 {w : World} {a : Option Addr} {l : List Int} {c : Nat} (x : Int) (hl : l.length ≤ 9223372036854775807) (hs : IL w a l) :
    Calls Tryz.prog 69 #[.slice a l.length c, .int .i64 x] w fun e w' => (∃ r : Int, e = .returned (.int .i64 r) ∧ (decide (0 ≤ r)) = l.any (fun y => x == y)) ∧ w' = w := by
  have HS : Hid (IL w a l) := hs
  have HL : Hid (l.length ≤ 9223372036854775807) := hl
  clear hs
  go_enter Tryz.func69, Tryz.ntmps69
  go_wp2_with fail
  go_loopg [5, 8] l.length (fun gk v5 v8 wr => ∃ i : Nat, i + gk = l.length ∧ v8 = .int .i64 (i : Int) ∧ wr = w ∧ (l.take i).any (fun y => x == y) = false)
  case atStart => exact ⟨0, by omega, rfl, rfl, by simp⟩
  case round =>
    obtain ⟨i, hig, rfl, rfl, hn⟩ := hrel
    have HN : Hid ((l.take i).any (fun y => x == y) = false) := hn
    clear hn
    by_cases hi : i < l.length
    · obtain ⟨b, o, rfl, hc⟩ := HS.out i hi
      have il : (i : Int) < (l.length : Int) := by omega
      have HT : Hid _ := any_take (fun y => x == y) hi
      have HO : Hid _ := any_of (fun y => x == y) hi
      generalize l[i] = s at *
      cases hp : (x == s) with
      | true =>
        go_wp2_with fail
        go_ret
        exact ⟨⟨_, rfl, by rw [HO.out hp]; simp⟩, rfl⟩
      | false =>
        go_wp2_with fail
        go_roundg (gk - 1)
        case measure => omega
        case rel => exact ⟨i + 1, by omega, by go_num, rfl, by rw [HT.out, HN.out, hp]; rfl⟩
    · have il : ¬ (i : Int) < (l.length : Int) := by omega
      have e : i = l.length := by omega
      have hn := HN.out
      rw [e, List.take_length] at hn
      clear e
      go_wp2_with fail
      go_ret
      exact ⟨⟨_, rfl, by first | (rw [hn]; decide) | decide⟩, rfl⟩
theorem contains20 {w : World} {a : Option Addr} {l : List Int} {c : Nat} (x : Int) (hl : l.length ≤ 9223372036854775807) (hs : IL w a l) :
    Calls Tryz.prog 55 #[.slice a l.length c, .int .i64 x] w fun e w' => e = .returned (.bool (l.any (fun y => x == y))) ∧ w' = w := by
  have h := index29 (c := c) x hl hs
  clear hs
  generalize l.any (fun y => x == y) = t at *
  go_enter Tryz.func55, Tryz.ntmps55
  go_wp2_with (go_at_call 69; refine h.mono ?_; rintro e w1 ⟨⟨r, rfl, hr⟩, rfl⟩)
  go_ret
  exact ⟨by rw [← hr]; rfl, rfl⟩
/-- Whether two are the same. -/
def tw : List Int → Bool
  | [] => false
  | a :: l => tw l || l.any (fun y => a == y)
def twi (l : List Int) (i : Nat) : Bool := (List.range i).any fun j => (l.take j).any (fun y => (l.getD j 0) == y)
theorem twi_step (l : List Int) (i : Nat) : twi l (i + 1) = (twi l i || (l.take i).any (fun y => (l.getD i 0) == y)) := by
  unfold twi
  rw [List.range_succ, List.any_append]
  simp
theorem twi_of {l : List Int} {i : Nat} (hi : i < l.length) (h : (l.take i).any (fun y => (l.getD i 0) == y) = true) : twi l l.length = true := by
  unfold twi
  rw [List.any_eq_true]
  exact ⟨i, List.mem_range.2 hi, h⟩
set_option maxHeartbeats 1000000 in
theorem twice11 {w : World} {a : Option Addr} {l : List Int} {c : Nat} (hl : l.length ≤ 16) (hcap : l.length ≤ c) (hc9 : c ≤ 9223372036854775807) (hs : IL w a l) :
    Calls Tryz.prog 31 #[.slice a l.length c] w fun e w' => e = .returned (.bool (twi l l.length)) ∧ w' = w := by
  have HS : Hid (IL w a l) := hs
  clear hs
  go_enter Tryz.func31, Tryz.ntmps31
  go_wp2_with fail
  go_loopg [3, 4, 7] l.length (fun gk v3 v4 v7 wr => ∃ i : Nat, i + gk = l.length ∧ v7 = .int .i64 (i : Int) ∧ wr = w ∧ twi l i = false)
  case atStart => exact ⟨0, by omega, rfl, rfl, rfl⟩
  case round =>
    obtain ⟨i, hig, rfl, rfl, hn⟩ := hrel
    have HN : Hid (twi l i = false) := hn
    clear hn
    by_cases hi : i < l.length
    · have hcall := contains20 (c := c) (l.getD i 0) (by simp; omega) (HS.out.take i)
      obtain ⟨b, o, rfl, hc⟩ := HS.out i hi
      have il : (i : Int) < (l.length : Int) := by omega
      have ic : i ≤ c := by omega
      have HT : Hid _ := twi_step l i
      have HO : Hid _ := twi_of hi
      have e : l.getD i 0 = l[i] := by simp [List.getD, hi]
      have el : (l.take i).length = i := by simp; omega
      rw [el] at hcall
      rw [e] at hcall HT HO
      clear e el
      generalize l[i] = s at *
      cases hp : (l.take i).any (fun y => s == y) with
      | true =>
        rw [hp] at hcall
        have HZ : Hid (twi l l.length = true) := HO.out hp
        clear HT HO hp
        go_wp2_with (go_at_call 55; refine hcall.mono ?_; rintro e w3 ⟨rfl, rfl⟩)
        go_ret
        exact ⟨by rw [HZ.out]; rfl, rfl⟩
      | false =>
        rw [hp] at hcall
        have HZ : Hid (twi l (i + 1) = false) := by show _ = _; rw [HT.out, HN.out, hp]; rfl
        clear HT HO hp
        go_wp2_with (go_at_call 55; refine hcall.mono ?_; rintro e w3 ⟨rfl, rfl⟩)
        go_roundg (gk - 1)
        case measure => omega
        case rel => exact ⟨i + 1, by omega, by go_num, rfl, HZ.out⟩
    · have il : ¬ (i : Int) < (l.length : Int) := by omega
      have e : i = l.length := by omega
      have HZ : Hid (twi l l.length = false) := by have h := HN.out; rw [e] at h; exact h
      clear e
      go_wp2_with fail
      go_ret
      exact ⟨by rw [HZ.out]; rfl, rfl⟩
end Go.Proofs.YtlimogamjgehjaaGreat
namespace Go.Proofs.YtlimogamjgehjaaGreat
open Go.RowKit Go.Deep Go.PlainAid

theorem number14 {w : World} {z : Int} {n c : Int} {r : ByteArray} (h : Hid (∀ W, Calls Tryz.prog 60 #[.int .i64 z, .int .i64 n] W fun e w' => e = .returned (.tuple #[.string r, .int .i64 c]) ∧ Below W.heap.size W w')) :
    Calls Tryz.prog 41 #[.agg #[.int .i64 z], .int .i64 n] w fun e w' => e = .returned (.string r) ∧ Below w.heap.size w w' := by
  have J : Hid (Below w.heap.size w (w.alloc (.cells #[.int .i64 z] 33))) := (Below.refl _ w).alloc (Nat.le_refl _) _
  go_enter Tryz.func41, Tryz.ntmps41
  go_wp2_with (go_at_call 60; refine (h.out _).mono ?_; rintro e w1 ⟨rfl, hB1⟩)
  go_ret
  exact ⟨rfl, J.out.trans (hB1.mono J.out.size)⟩
theorem plus16 {w : World} {z : Int} {c : Int} {s t r : ByteArray} (h : Hid (∀ W, Calls Tryz.prog 61 #[.int .i64 z, .string s, .string t] W fun e w' => e = .returned (.tuple #[.string r, .int .i64 c]) ∧ Below W.heap.size W w')) :
    Calls Tryz.prog 42 #[.agg #[.int .i64 z], .string s, .string t] w fun e w' => e = .returned (.string r) ∧ Below w.heap.size w w' := by
  have J : Hid (Below w.heap.size w (w.alloc (.cells #[.int .i64 z] 33))) := (Below.refl _ w).alloc (Nat.le_refl _) _
  go_enter Tryz.func42, Tryz.ntmps42
  go_wp2_with (go_at_call 61; refine (h.out _).mono ?_; rintro e w1 ⟨rfl, hB1⟩)
  go_ret
  exact ⟨rfl, J.out.trans (hB1.mono J.out.size)⟩
theorem times17 {w : World} {z : Int} {c : Int} {s t r : ByteArray} (h : Hid (∀ W, Calls Tryz.prog 62 #[.int .i64 z, .string s, .string t] W fun e w' => e = .returned (.tuple #[.string r, .int .i64 c]) ∧ Below W.heap.size W w')) :
    Calls Tryz.prog 43 #[.agg #[.int .i64 z], .string s, .string t] w fun e w' => e = .returned (.string r) ∧ Below w.heap.size w w' := by
  have J : Hid (Below w.heap.size w (w.alloc (.cells #[.int .i64 z] 33))) := (Below.refl _ w).alloc (Nat.le_refl _) _
  go_enter Tryz.func43, Tryz.ntmps43
  go_wp2_with (go_at_call 62; refine (h.out _).mono ?_; rintro e w1 ⟨rfl, hB1⟩)
  go_ret
  exact ⟨rfl, J.out.trans (hB1.mono J.out.size)⟩
theorem noScalar13 {w : World} {z : Int} {s : ByteArray} {q : Bool} (h : Hid (∀ W, Calls Tryz.prog 59 #[.int .i64 z, .string s] W fun e w' => e = .returned (.bool q) ∧ Below W.heap.size W w')) :
    Calls Tryz.prog 40 #[.agg #[.int .i64 z], .string s] w fun e w' => e = .returned (.bool (!q)) ∧ Below w.heap.size w w' := by
  have J : Hid (Below w.heap.size w (w.alloc (.cells #[.int .i64 z] 33))) := (Below.refl _ w).alloc (Nat.le_refl _) _
  go_enter Tryz.func40, Tryz.ntmps40
  go_wp2_with (go_at_call 59; refine (h.out _).mono ?_; rintro e w1 ⟨rfl, hB1⟩)
  go_ret
  exact ⟨rfl, J.out.trans (hB1.mono J.out.size)⟩
theorem over37 {w : World} {z c : Int} {s t i r : ByteArray} (h1 : Hid (∀ W, Calls Tryz.prog 70 #[.int .i64 z, .string t] W fun e w' => e = .returned (.tuple #[.string i, .int .i64 c]) ∧ Below W.heap.size W w')) (h2 : Hid (∀ W, Calls Tryz.prog 43 #[.agg #[.int .i64 z], .string s, .string i] W fun e w' => e = .returned (.string r) ∧ Below W.heap.size W w')) :
    Calls Tryz.prog 56 #[.agg #[.int .i64 z], .string s, .string t] w fun e w' => e = .returned (.string r) ∧ Below w.heap.size w w' := by
  have J : Hid (Below w.heap.size w (w.alloc (.cells #[.int .i64 z] 33))) := (Below.refl _ w).alloc (Nat.le_refl _) _
  have I : Hid (IHolds (w.alloc (.cells #[.int .i64 z] 33)) w.heap.size 33 [.int .i64 z]) := IHolds.new _ _ _
  go_enter Tryz.func56, Tryz.ntmps56
  go_wp2_with (first
    | (go_at_call 70; refine (h1.out _).mono ?_; rintro e w1 ⟨rfl, hB1⟩; have B1 : Hid (Below w.heap.size w w1) := J.out.trans (hB1.mono J.out.size); have q0 := cell_keep (I.out.cell 0 (by simp)) hB1; clear hB1 J I)
    | (go_at_call 43; refine (h2.out _).mono ?_; rintro e w2 ⟨rfl, hB2⟩; have B2 : Hid (Below w.heap.size w w2) := B1.out.trans (hB2.mono B1.out.size); clear hB2 B1))
  go_ret
  exact ⟨rfl, B2.out⟩
theorem groundOf9 {w : World} {z s c : Int} (h : Hid (∀ W, Calls Tryz.prog 53 #[.int .i64 z] W fun e w' => e = .returned (.tuple #[.int .i64 s, .int .i64 s, .int .i64 c]) ∧ Below W.heap.size W w')) :
    Calls Tryz.prog 29 #[.int .i64 z] w fun e w' => e = .returned (.tuple #[.agg #[.int .i64 z], .int .i64 c]) ∧ Below w.heap.size w w' := by
  generalize hW : w.alloc (.cells #[.int .i64 0] 33) = W
  have J : Hid (Below w.heap.size w W) := by rw [← hW]; exact (Below.refl _ w).alloc (Nat.le_refl _) _
  have I0 : Hid (IHolds W w.heap.size 33 [.int .i64 0]) := by rw [← hW]; exact IHolds.new w 33 [.int .i64 0]
  go_enter Tryz.func29, Tryz.ntmps29
  go_wp2_with (go_at_call 53; refine (h.out _).mono ?_; rintro e w1 ⟨rfl, hB1⟩; have B1 : Hid (Below w.heap.size w w1) := J.out.trans (hB1.mono J.out.size); have I1 : Hid (IHolds w1 w.heap.size 33 [.int .i64 0]) := I0.out.of_below hB1; have f1 : w1.frozen? ⟨w.heap.size, 0, none⟩ = false := I1.out.frozen 0; have c1 : w1.cell? ⟨w.heap.size, 0, none⟩ = some (.int .i64 0) := I1.out.cell 0 (by simp))
  have I2 : Hid (IHolds (w1.setCell ⟨w.heap.size, 0, none⟩ (.int .i64 z)) w.heap.size 33 [.int .i64 z]) := I1.out.set 0 (.int .i64 z)
  have B2 : Hid (Below w.heap.size w (w1.setCell ⟨w.heap.size, 0, none⟩ (.int .i64 z))) := Below.setCell B1.out (Nat.le_refl _) _
  generalize w1.setCell ⟨w.heap.size, 0, none⟩ (.int .i64 z) = w2 at *
  have E0 : w2.cell? ⟨w.heap.size, 0, none⟩ = some (.int .i64 z) := I2.out.cell 0 (by simp)
  exact bodyPost_ret (v := .tuple #[.agg #[.int .i64 z], .int .i64 c]) (by simp [results, Tryz.results29, go_sem, E0]) rfl ⟨rfl, B2.out⟩
theorem wrong6_len {w : World} {z : Int} {a b : Option Addr} {n m c d : Nat} (h : ((m : Int) != (n : Int)) = true) :
    Calls Tryz.prog 17 #[.agg #[.int .i64 z, .slice a n c], .slice b m d] w fun e w' => e = .returned (.int .i64 2) ∧ Below w.heap.size w w' := by
  have J : Hid (Below w.heap.size w (w.alloc (.cells #[.int .i64 z, .slice a n c] 35))) := (Below.refl _ w).alloc (Nat.le_refl _) _
  go_enter Tryz.func17, Tryz.ntmps17
  go_wp2_with fail
  go_ret
  exact ⟨rfl, J.out⟩
theorem wrong6 {w : World} {z : Int} {a b : Option Addr} {n c d : Nat} {t : Bool} (h : ∀ W, Below w.heap.size w W → Calls Tryz.prog 39 #[.slice b n d, .func (.func 40) #[.agg #[.int .i64 z]] #[]] W fun e w' => e = .returned (.bool t) ∧ Below W.heap.size W w') :
    Calls Tryz.prog 17 #[.agg #[.int .i64 z, .slice a n c], .slice b n d] w fun e w' => e = .returned (.int .i64 (if t then 6 else 0)) ∧ Below w.heap.size w w' := by
  have J : Hid (Below w.heap.size w (w.alloc (.cells #[.int .i64 z, .slice a n c] 35))) := (Below.refl _ w).alloc (Nat.le_refl _) _
  have H : Hid _ := h
  have hmf := hmfun
  have k2 : ((n : Int) != (n : Int)) = false := by simp
  clear h
  cases t with
  | true =>
    go_enter Tryz.func17, Tryz.ntmps17
    go_wp2_with (go_at_call 39; refine (H.out _ J.out).mono ?_; rintro e w1 ⟨rfl, hB1⟩)
    go_ret
    exact ⟨rfl, J.out.trans (hB1.mono J.out.size)⟩
  | false =>
    go_enter Tryz.func17, Tryz.ntmps17
    go_wp2_with (go_at_call 39; refine (H.out _ J.out).mono ?_; rintro e w1 ⟨rfl, hB1⟩)
    go_ret
    exact ⟨rfl, J.out.trans (hB1.mono J.out.size)⟩
set_option maxRecDepth 100000 in
set_option maxHeartbeats 2000000 in
theorem places_none {w : World} {z : Int} {a : Option Addr} {n c : Nat} (CG : Hid (∀ W, Calls Tryz.prog 29 #[.int .i64 z] W fun e w' => e = .returned (.tuple #[.agg #[.int .i64 z], .int .i64 1]) ∧ Below W.heap.size W w')) :
    Calls Tryz.prog 11 #[.int .i64 z, .slice a n c] w fun e w' => e = .returned (.tuple #[.agg #[.int .i64 0, .slice none 0 0], .int .i64 1]) ∧ Below w.heap.size w w' := by
  go_enter Tryz.func11, Tryz.ntmps11
  go_wp2_with fail
  obtain ⟨U1, hU1⟩ : ∃ X, X = (w.alloc (.cells #[.int .i64 0, .slice none 0 0] 35)) := ⟨_, rfl⟩
  have Jr : Hid (IHolds U1 (w.heap.size) 35 [.int .i64 0, .slice none 0 0]) := by
    have q := IHolds.new w 35 [.int .i64 0, .slice none 0 0]
    show IHolds _ _ _ _
    rw [hU1]
    exact q
  have B : Hid (Below w.heap.size w U1) := by
    show Below _ _ _
    rw [hU1]
    exact ((Below.refl _ w).alloc (Nat.le_refl _) _)
  rw [← hU1]
  clear hU1
  refine (CG.out U1).mono ?_
  rintro e U2 ⟨rfl, hb⟩
  replace B := aB B hb
  replace Jr := aJ Jr hb
  clear hb
  have hb := nB U2 (.cells #[.int .i64 z] 33)
  replace B := aB B hb
  replace Jr := aJ Jr hb
  clear hb
  obtain ⟨zr_0, zr_1⟩ := cJ Jr
  have f0 := fJ Jr
  have I4 : Hid (IHolds _ (w.heap.size) 35 [.int .i64 0, .slice none 0 0]) := ((Jr.out.set 0 (.int .i64 0)).set 1 (.slice none 0 0))
  replace B : Hid (Below w.heap.size w (((U2.alloc (.cells #[.int .i64 z] 33)).setCell ⟨w.heap.size, 0, none⟩ (.int .i64 0)).setCell ⟨w.heap.size, 1, none⟩ (.slice none 0 0))) := ((B.out.setCell (Nat.le_refl _) _).setCell (Nat.le_refl _) _)
  replace Jr := I4
  go_wp2_with fail
  clear zr_0 zr_1
  clear f0
  generalize (((U2.alloc (.cells #[.int .i64 z] 33)).setCell ⟨w.heap.size, 0, none⟩ (.int .i64 0)).setCell ⟨w.heap.size, 1, none⟩ (.slice none 0 0)) = U3 at *
  have E0 : Hid (U3.cell? ⟨w.heap.size, 0, none⟩ = some (.int .i64 0)) := IHolds.cell (l := [.int .i64 0, .slice none 0 0]) (t := 35) (b := w.heap.size) (w := U3) Jr.out 0 (by simp)
  have E1 : Hid (U3.cell? ⟨w.heap.size, 1, none⟩ = some (.slice none 0 0)) := IHolds.cell (l := [.int .i64 0, .slice none 0 0]) (t := 35) (b := w.heap.size) (w := U3) Jr.out 1 (by simp)
  exact bodyPost_ret (v := .tuple #[.agg #[.int .i64 0, .slice none 0 0], .int .i64 1]) (by simp [results, Tryz.results11, go_sem, E0.out, E1.out]) rfl ⟨rfl, B.out⟩
set_option maxRecDepth 100000 in
set_option maxHeartbeats 2000000 in
theorem places_long {w : World} {z : Int} {a : Option Addr} {n c : Nat} (CG : Hid (∀ W, Calls Tryz.prog 29 #[.int .i64 z] W fun e w' => e = .returned (.tuple #[.agg #[.int .i64 z], .int .i64 0]) ∧ Below W.heap.size W w')) (h1 : (16 : Int) < (n : Int)) :
    Calls Tryz.prog 11 #[.int .i64 z, .slice a n c] w fun e w' => e = .returned (.tuple #[.agg #[.int .i64 0, .slice none 0 0], .int .i64 3]) ∧ Below w.heap.size w w' := by
  go_enter Tryz.func11, Tryz.ntmps11
  go_wp2_with fail
  obtain ⟨U1, hU1⟩ : ∃ X, X = (w.alloc (.cells #[.int .i64 0, .slice none 0 0] 35)) := ⟨_, rfl⟩
  have Jr : Hid (IHolds U1 (w.heap.size) 35 [.int .i64 0, .slice none 0 0]) := by
    have q := IHolds.new w 35 [.int .i64 0, .slice none 0 0]
    show IHolds _ _ _ _
    rw [hU1]
    exact q
  have B : Hid (Below w.heap.size w U1) := by
    show Below _ _ _
    rw [hU1]
    exact ((Below.refl _ w).alloc (Nat.le_refl _) _)
  rw [← hU1]
  clear hU1
  refine (CG.out U1).mono ?_
  rintro e U2 ⟨rfl, hb⟩
  replace B := aB B hb
  replace Jr := aJ Jr hb
  clear hb
  have hb := nB U2 (.cells #[.int .i64 z] 33)
  replace B := aB B hb
  replace Jr := aJ Jr hb
  clear hb
  obtain ⟨zr_0, zr_1⟩ := cJ Jr
  have f0 := fJ Jr
  have I4 : Hid (IHolds _ (w.heap.size) 35 [.int .i64 0, .slice none 0 0]) := ((Jr.out.set 0 (.int .i64 0)).set 1 (.slice none 0 0))
  replace B : Hid (Below w.heap.size w (((U2.alloc (.cells #[.int .i64 z] 33)).setCell ⟨w.heap.size, 0, none⟩ (.int .i64 0)).setCell ⟨w.heap.size, 1, none⟩ (.slice none 0 0))) := ((B.out.setCell (Nat.le_refl _) _).setCell (Nat.le_refl _) _)
  replace Jr := I4
  go_wp2_with fail
  clear zr_0 zr_1
  clear f0
  generalize (((U2.alloc (.cells #[.int .i64 z] 33)).setCell ⟨w.heap.size, 0, none⟩ (.int .i64 0)).setCell ⟨w.heap.size, 1, none⟩ (.slice none 0 0)) = U3 at *
  have E0 : Hid (U3.cell? ⟨w.heap.size, 0, none⟩ = some (.int .i64 0)) := IHolds.cell (l := [.int .i64 0, .slice none 0 0]) (t := 35) (b := w.heap.size) (w := U3) Jr.out 0 (by simp)
  have E1 : Hid (U3.cell? ⟨w.heap.size, 1, none⟩ = some (.slice none 0 0)) := IHolds.cell (l := [.int .i64 0, .slice none 0 0]) (t := 35) (b := w.heap.size) (w := U3) Jr.out 1 (by simp)
  exact bodyPost_ret (v := .tuple #[.agg #[.int .i64 0, .slice none 0 0], .int .i64 3]) (by simp [results, Tryz.results11, go_sem, E0.out, E1.out]) rfl ⟨rfl, B.out⟩
set_option maxRecDepth 100000 in
set_option maxHeartbeats 2000000 in
theorem places_nil {w : World} {z : Int} {a : Option Addr} {n c : Nat} (CG : Hid (∀ W, Calls Tryz.prog 29 #[.int .i64 z] W fun e w' => e = .returned (.tuple #[.agg #[.int .i64 z], .int .i64 0]) ∧ Below W.heap.size W w')) (h1 : ¬ (16 : Int) < (n : Int)) (h2 : ((n : Int) == 0) = true) :
    Calls Tryz.prog 11 #[.int .i64 z, .slice a n c] w fun e w' => e = .returned (.tuple #[.agg #[.int .i64 0, .slice none 0 0], .int .i64 2]) ∧ Below w.heap.size w w' := by
  go_enter Tryz.func11, Tryz.ntmps11
  go_wp2_with fail
  obtain ⟨U1, hU1⟩ : ∃ X, X = (w.alloc (.cells #[.int .i64 0, .slice none 0 0] 35)) := ⟨_, rfl⟩
  have Jr : Hid (IHolds U1 (w.heap.size) 35 [.int .i64 0, .slice none 0 0]) := by
    have q := IHolds.new w 35 [.int .i64 0, .slice none 0 0]
    show IHolds _ _ _ _
    rw [hU1]
    exact q
  have B : Hid (Below w.heap.size w U1) := by
    show Below _ _ _
    rw [hU1]
    exact ((Below.refl _ w).alloc (Nat.le_refl _) _)
  rw [← hU1]
  clear hU1
  refine (CG.out U1).mono ?_
  rintro e U2 ⟨rfl, hb⟩
  replace B := aB B hb
  replace Jr := aJ Jr hb
  clear hb
  have hb := nB U2 (.cells #[.int .i64 z] 33)
  replace B := aB B hb
  replace Jr := aJ Jr hb
  clear hb
  obtain ⟨zr_0, zr_1⟩ := cJ Jr
  have f0 := fJ Jr
  have I4 : Hid (IHolds _ (w.heap.size) 35 [.int .i64 0, .slice none 0 0]) := ((Jr.out.set 0 (.int .i64 0)).set 1 (.slice none 0 0))
  replace B : Hid (Below w.heap.size w (((U2.alloc (.cells #[.int .i64 z] 33)).setCell ⟨w.heap.size, 0, none⟩ (.int .i64 0)).setCell ⟨w.heap.size, 1, none⟩ (.slice none 0 0))) := ((B.out.setCell (Nat.le_refl _) _).setCell (Nat.le_refl _) _)
  replace Jr := I4
  go_wp2_with fail
  clear zr_0 zr_1
  clear f0
  generalize (((U2.alloc (.cells #[.int .i64 z] 33)).setCell ⟨w.heap.size, 0, none⟩ (.int .i64 0)).setCell ⟨w.heap.size, 1, none⟩ (.slice none 0 0)) = U3 at *
  have E0 : Hid (U3.cell? ⟨w.heap.size, 0, none⟩ = some (.int .i64 0)) := IHolds.cell (l := [.int .i64 0, .slice none 0 0]) (t := 35) (b := w.heap.size) (w := U3) Jr.out 0 (by simp)
  have E1 : Hid (U3.cell? ⟨w.heap.size, 1, none⟩ = some (.slice none 0 0)) := IHolds.cell (l := [.int .i64 0, .slice none 0 0]) (t := 35) (b := w.heap.size) (w := U3) Jr.out 1 (by simp)
  exact bodyPost_ret (v := .tuple #[.agg #[.int .i64 0, .slice none 0 0], .int .i64 2]) (by simp [results, Tryz.results11, go_sem, E0.out, E1.out]) rfl ⟨rfl, B.out⟩
set_option maxRecDepth 100000 in
set_option maxHeartbeats 2000000 in
theorem places_range {w : World} {z : Int} {a : Option Addr} {n c : Nat} (CG : Hid (∀ W, Calls Tryz.prog 29 #[.int .i64 z] W fun e w' => e = .returned (.tuple #[.agg #[.int .i64 z], .int .i64 0]) ∧ Below W.heap.size W w')) (h1 : ¬ (16 : Int) < (n : Int)) (h2 : ((n : Int) == 0) = false) (C10 : Hid (∀ W, Below w.heap.size w W → Calls Tryz.prog 30 #[.slice a n c, .func (.func 18) #[] #[]] W fun e w' => e = .returned (.bool true) ∧ Below W.heap.size W w')) :
    Calls Tryz.prog 11 #[.int .i64 z, .slice a n c] w fun e w' => e = .returned (.tuple #[.agg #[.int .i64 0, .slice none 0 0], .int .i64 4]) ∧ Below w.heap.size w w' := by
  go_enter Tryz.func11, Tryz.ntmps11
  go_wp2_with fail
  obtain ⟨U1, hU1⟩ : ∃ X, X = (w.alloc (.cells #[.int .i64 0, .slice none 0 0] 35)) := ⟨_, rfl⟩
  have Jr : Hid (IHolds U1 (w.heap.size) 35 [.int .i64 0, .slice none 0 0]) := by
    have q := IHolds.new w 35 [.int .i64 0, .slice none 0 0]
    show IHolds _ _ _ _
    rw [hU1]
    exact q
  have B : Hid (Below w.heap.size w U1) := by
    show Below _ _ _
    rw [hU1]
    exact ((Below.refl _ w).alloc (Nat.le_refl _) _)
  rw [← hU1]
  clear hU1
  refine (CG.out U1).mono ?_
  rintro e U2 ⟨rfl, hb⟩
  replace B := aB B hb
  replace Jr := aJ Jr hb
  clear hb
  have hb := nB U2 (.cells #[.int .i64 z] 33)
  have Jg : Hid (IHolds (U2.alloc (.cells #[.int .i64 z] 33)) U2.heap.size 33 [.int .i64 z]) := IHolds.new _ _ _
  have ne_r_g := nJ Jr
  have ge_g : Hid (w.heap.size ≤ U2.heap.size) := B.out.size
  replace B := aB B hb
  replace Jr := aJ Jr hb
  clear hb
  go_wp2_with fail
  generalize (U2.alloc (.cells #[.int .i64 z] 33)) = U3 at *
  generalize U2.heap.size = b4 at *
  refine (C10.out U3 B.out).mono ?_
  rintro e U5 ⟨rfl, hb⟩
  replace B := aB B hb
  replace Jr := aJ Jr hb
  replace Jg := aJ Jg hb
  clear hb
  obtain ⟨zr_0, zr_1⟩ := cJ Jr
  have f0 := fJ Jr
  have hBut : But (w.heap.size) U5 ((U5.setCell ⟨w.heap.size, 0, none⟩ (.int .i64 0)).setCell ⟨w.heap.size, 1, none⟩ (.slice none 0 0)) := (((But.refl _ U5).setCell 0 (.int .i64 0)).setCell 1 (.slice none 0 0))
  have I4 : Hid (IHolds _ (w.heap.size) 35 [.int .i64 0, .slice none 0 0]) := ((Jr.out.set 0 (.int .i64 0)).set 1 (.slice none 0 0))
  replace B : Hid (Below w.heap.size w ((U5.setCell ⟨w.heap.size, 0, none⟩ (.int .i64 0)).setCell ⟨w.heap.size, 1, none⟩ (.slice none 0 0))) := ((B.out.setCell (by first | exact Nat.le_refl _ | exact ge_r.out | (show w.heap.size ≤ w.heap.size; omega)) _).setCell (by first | exact Nat.le_refl _ | exact ge_r.out | (show w.heap.size ≤ w.heap.size; omega)) _)
  replace Jg := tJ Jg hBut (fun h => ne_r_g.out h.symm)
  replace Jr := I4
  clear I4 hBut
  go_wp2_with fail
  clear zr_0 zr_1
  clear f0
  generalize ((U5.setCell ⟨w.heap.size, 0, none⟩ (.int .i64 0)).setCell ⟨w.heap.size, 1, none⟩ (.slice none 0 0)) = U6 at *
  have E0 : Hid (U6.cell? ⟨w.heap.size, 0, none⟩ = some (.int .i64 0)) := IHolds.cell (l := [.int .i64 0, .slice none 0 0]) (t := 35) (b := w.heap.size) (w := U6) Jr.out 0 (by simp)
  have E1 : Hid (U6.cell? ⟨w.heap.size, 1, none⟩ = some (.slice none 0 0)) := IHolds.cell (l := [.int .i64 0, .slice none 0 0]) (t := 35) (b := w.heap.size) (w := U6) Jr.out 1 (by simp)
  exact bodyPost_ret (v := .tuple #[.agg #[.int .i64 0, .slice none 0 0], .int .i64 4]) (by simp [results, Tryz.results11, go_sem, E0.out, E1.out]) rfl ⟨rfl, B.out⟩
set_option maxRecDepth 100000 in
set_option maxHeartbeats 2000000 in
theorem places_twice {w : World} {z : Int} {a : Option Addr} {n c : Nat} (CG : Hid (∀ W, Calls Tryz.prog 29 #[.int .i64 z] W fun e w' => e = .returned (.tuple #[.agg #[.int .i64 z], .int .i64 0]) ∧ Below W.heap.size W w')) (h1 : ¬ (16 : Int) < (n : Int)) (h2 : ((n : Int) == 0) = false) (C10 : Hid (∀ W, Below w.heap.size w W → Calls Tryz.prog 30 #[.slice a n c, .func (.func 18) #[] #[]] W fun e w' => e = .returned (.bool false) ∧ Below W.heap.size W w')) (C11 : Hid (∀ W, Below w.heap.size w W → Calls Tryz.prog 31 #[.slice a n c] W fun e w' => e = .returned (.bool true) ∧ Below W.heap.size W w')) :
    Calls Tryz.prog 11 #[.int .i64 z, .slice a n c] w fun e w' => e = .returned (.tuple #[.agg #[.int .i64 0, .slice none 0 0], .int .i64 10]) ∧ Below w.heap.size w w' := by
  go_enter Tryz.func11, Tryz.ntmps11
  go_wp2_with fail
  obtain ⟨U1, hU1⟩ : ∃ X, X = (w.alloc (.cells #[.int .i64 0, .slice none 0 0] 35)) := ⟨_, rfl⟩
  have Jr : Hid (IHolds U1 (w.heap.size) 35 [.int .i64 0, .slice none 0 0]) := by
    have q := IHolds.new w 35 [.int .i64 0, .slice none 0 0]
    show IHolds _ _ _ _
    rw [hU1]
    exact q
  have B : Hid (Below w.heap.size w U1) := by
    show Below _ _ _
    rw [hU1]
    exact ((Below.refl _ w).alloc (Nat.le_refl _) _)
  rw [← hU1]
  clear hU1
  refine (CG.out U1).mono ?_
  rintro e U2 ⟨rfl, hb⟩
  replace B := aB B hb
  replace Jr := aJ Jr hb
  clear hb
  have hb := nB U2 (.cells #[.int .i64 z] 33)
  have Jg : Hid (IHolds (U2.alloc (.cells #[.int .i64 z] 33)) U2.heap.size 33 [.int .i64 z]) := IHolds.new _ _ _
  have ne_r_g := nJ Jr
  have ge_g : Hid (w.heap.size ≤ U2.heap.size) := B.out.size
  replace B := aB B hb
  replace Jr := aJ Jr hb
  clear hb
  go_wp2_with fail
  generalize (U2.alloc (.cells #[.int .i64 z] 33)) = U3 at *
  generalize U2.heap.size = b4 at *
  refine (C10.out U3 B.out).mono ?_
  rintro e U5 ⟨rfl, hb⟩
  replace B := aB B hb
  replace Jr := aJ Jr hb
  replace Jg := aJ Jg hb
  clear hb
  go_wp2_with fail
  refine (C11.out U5 B.out).mono ?_
  rintro e U6 ⟨rfl, hb⟩
  replace B := aB B hb
  replace Jr := aJ Jr hb
  replace Jg := aJ Jg hb
  clear hb
  obtain ⟨zr_0, zr_1⟩ := cJ Jr
  have f0 := fJ Jr
  have hBut : But (w.heap.size) U6 ((U6.setCell ⟨w.heap.size, 0, none⟩ (.int .i64 0)).setCell ⟨w.heap.size, 1, none⟩ (.slice none 0 0)) := (((But.refl _ U6).setCell 0 (.int .i64 0)).setCell 1 (.slice none 0 0))
  have I4 : Hid (IHolds _ (w.heap.size) 35 [.int .i64 0, .slice none 0 0]) := ((Jr.out.set 0 (.int .i64 0)).set 1 (.slice none 0 0))
  replace B : Hid (Below w.heap.size w ((U6.setCell ⟨w.heap.size, 0, none⟩ (.int .i64 0)).setCell ⟨w.heap.size, 1, none⟩ (.slice none 0 0))) := ((B.out.setCell (by first | exact Nat.le_refl _ | exact ge_r.out | (show w.heap.size ≤ w.heap.size; omega)) _).setCell (by first | exact Nat.le_refl _ | exact ge_r.out | (show w.heap.size ≤ w.heap.size; omega)) _)
  replace Jg := tJ Jg hBut (fun h => ne_r_g.out h.symm)
  replace Jr := I4
  clear I4 hBut
  go_wp2_with fail
  clear zr_0 zr_1
  clear f0
  generalize ((U6.setCell ⟨w.heap.size, 0, none⟩ (.int .i64 0)).setCell ⟨w.heap.size, 1, none⟩ (.slice none 0 0)) = U7 at *
  have E0 : Hid (U7.cell? ⟨w.heap.size, 0, none⟩ = some (.int .i64 0)) := IHolds.cell (l := [.int .i64 0, .slice none 0 0]) (t := 35) (b := w.heap.size) (w := U7) Jr.out 0 (by simp)
  have E1 : Hid (U7.cell? ⟨w.heap.size, 1, none⟩ = some (.slice none 0 0)) := IHolds.cell (l := [.int .i64 0, .slice none 0 0]) (t := 35) (b := w.heap.size) (w := U7) Jr.out 1 (by simp)
  exact bodyPost_ret (v := .tuple #[.agg #[.int .i64 0, .slice none 0 0], .int .i64 10]) (by simp [results, Tryz.results11, go_sem, E0.out, E1.out]) rfl ⟨rfl, B.out⟩
set_option maxRecDepth 100000 in
set_option maxHeartbeats 2000000 in
theorem places_ok {w : World} {z : Int} {a : Option Addr} {n c : Nat} (CG : Hid (∀ W, Calls Tryz.prog 29 #[.int .i64 z] W fun e w' => e = .returned (.tuple #[.agg #[.int .i64 z], .int .i64 0]) ∧ Below W.heap.size W w')) (h1 : ¬ (16 : Int) < (n : Int)) (h2 : ((n : Int) == 0) = false) (C10 : Hid (∀ W, Below w.heap.size w W → Calls Tryz.prog 30 #[.slice a n c, .func (.func 18) #[] #[]] W fun e w' => e = .returned (.bool false) ∧ Below W.heap.size W w')) (C11 : Hid (∀ W, Below w.heap.size w W → Calls Tryz.prog 31 #[.slice a n c] W fun e w' => e = .returned (.bool false) ∧ Below W.heap.size W w')) :
    Calls Tryz.prog 11 #[.int .i64 z, .slice a n c] w fun e w' => e = .returned (.tuple #[.agg #[.int .i64 z, .slice a n c], .int .i64 0]) ∧ Below w.heap.size w w' := by
  go_enter Tryz.func11, Tryz.ntmps11
  go_wp2_with fail
  obtain ⟨U1, hU1⟩ : ∃ X, X = (w.alloc (.cells #[.int .i64 0, .slice none 0 0] 35)) := ⟨_, rfl⟩
  have Jr : Hid (IHolds U1 (w.heap.size) 35 [.int .i64 0, .slice none 0 0]) := by
    have q := IHolds.new w 35 [.int .i64 0, .slice none 0 0]
    show IHolds _ _ _ _
    rw [hU1]
    exact q
  have B : Hid (Below w.heap.size w U1) := by
    show Below _ _ _
    rw [hU1]
    exact ((Below.refl _ w).alloc (Nat.le_refl _) _)
  rw [← hU1]
  clear hU1
  refine (CG.out U1).mono ?_
  rintro e U2 ⟨rfl, hb⟩
  replace B := aB B hb
  replace Jr := aJ Jr hb
  clear hb
  have hb := nB U2 (.cells #[.int .i64 z] 33)
  have Jg : Hid (IHolds (U2.alloc (.cells #[.int .i64 z] 33)) U2.heap.size 33 [.int .i64 z]) := IHolds.new _ _ _
  have ne_r_g := nJ Jr
  have ge_g : Hid (w.heap.size ≤ U2.heap.size) := B.out.size
  replace B := aB B hb
  replace Jr := aJ Jr hb
  clear hb
  go_wp2_with fail
  generalize (U2.alloc (.cells #[.int .i64 z] 33)) = U3 at *
  generalize U2.heap.size = b4 at *
  refine (C10.out U3 B.out).mono ?_
  rintro e U5 ⟨rfl, hb⟩
  replace B := aB B hb
  replace Jr := aJ Jr hb
  replace Jg := aJ Jg hb
  clear hb
  go_wp2_with fail
  refine (C11.out U5 B.out).mono ?_
  rintro e U6 ⟨rfl, hb⟩
  replace B := aB B hb
  replace Jr := aJ Jr hb
  replace Jg := aJ Jg hb
  clear hb
  have Kg : Hid (IHolds U6 (b4) 33 [.int .i64 z]) := Jg.out
  obtain ⟨zr_0, zr_1⟩ := cJ Jr
  have f0 := fJ Jr
  have hBut : But (w.heap.size) U6 ((U6.setCell ⟨w.heap.size, 0, none⟩ (.int .i64 z)).setCell ⟨w.heap.size, 1, none⟩ (.slice a n c)) := (((But.refl _ U6).setCell 0 (.int .i64 z)).setCell 1 (.slice a n c))
  have I4 : Hid (IHolds _ (w.heap.size) 35 [.int .i64 z, .slice a n c]) := ((Jr.out.set 0 (.int .i64 z)).set 1 (.slice a n c))
  replace B : Hid (Below w.heap.size w ((U6.setCell ⟨w.heap.size, 0, none⟩ (.int .i64 z)).setCell ⟨w.heap.size, 1, none⟩ (.slice a n c))) := ((B.out.setCell (by first | exact Nat.le_refl _ | exact ge_r.out | (show w.heap.size ≤ w.heap.size; omega)) _).setCell (by first | exact Nat.le_refl _ | exact ge_r.out | (show w.heap.size ≤ w.heap.size; omega)) _)
  replace Jg := tJ Jg hBut (fun h => ne_r_g.out h.symm)
  replace Jr := I4
  clear I4 hBut
  have zg_0 : U6.cell? ⟨b4, 0, none⟩ = some (.int .i64 z) := IHolds.cell (l := [.int .i64 z]) (t := 33) (b := b4) (w := U6) (Kg.out) 0 (by simp)
  go_wp2_with fail
  clear zg_0
  clear Kg
  clear zr_0 zr_1
  clear f0
  generalize ((U6.setCell ⟨w.heap.size, 0, none⟩ (.int .i64 z)).setCell ⟨w.heap.size, 1, none⟩ (.slice a n c)) = U7 at *
  have E0 : Hid (U7.cell? ⟨w.heap.size, 0, none⟩ = some (.int .i64 z)) := IHolds.cell (l := [.int .i64 z, .slice a n c]) (t := 35) (b := w.heap.size) (w := U7) Jr.out 0 (by simp)
  have E1 : Hid (U7.cell? ⟨w.heap.size, 1, none⟩ = some (.slice a n c)) := IHolds.cell (l := [.int .i64 z, .slice a n c]) (t := 35) (b := w.heap.size) (w := U7) Jr.out 1 (by simp)
  exact bodyPost_ret (v := .tuple #[.agg #[.int .i64 z, .slice a n c], .int .i64 0]) (by simp [results, Tryz.results11, go_sem, E0.out, E1.out]) rfl ⟨rfl, B.out⟩
end Go.Proofs.YtlimogamjgehjaaGreat
namespace Go.Proofs.YtlimogamjgehjaaGreat
open Go.RowKit Go.Deep Go.PlainAid

theorem wrap_small {t : Int} (h1 : -255 ≤ t) (h2 : t ≤ 255) : IntKind.i64.wrap t = t := by
  go_arith
/-- What is multiplied up over the other places. -/
def fo (nu : Int → ByteArray) (tm : ByteArray → ByteArray → ByteArray) (here x : Int) (P : List Int) : ByteArray := P.foldl (fun acc y => if y ≠ here then tm acc (nu (y - x)) else acc) (nu 1)
theorem fo_yes {nu : Int → ByteArray} {tm : ByteArray → ByteArray → ByteArray} {here x : Int} {P : List Int} {i : Nat} (h : i < P.length) (hy : P[i] ≠ here) : fo nu tm here x (P.take (i + 1)) = tm (fo nu tm here x (P.take i)) (nu (P[i] - x)) := by
  unfold fo
  rw [List.take_succ_eq_append_getElem h, List.foldl_append]
  simp [hy]
theorem fo_no {nu : Int → ByteArray} {tm : ByteArray → ByteArray → ByteArray} {here x : Int} {P : List Int} {i : Nat} (h : i < P.length) (hy : P[i] = here) : fo nu tm here x (P.take (i + 1)) = fo nu tm here x (P.take i) := by
  unfold fo
  rw [List.take_succ_eq_append_getElem h, List.foldl_append]
  simp [hy]
theorem fo_sc {nu : Int → ByteArray} {tm : ByteArray → ByteArray → ByteArray} {p : ByteArray → Prop} (h1 : ∀ k, p (nu k)) (h2 : ∀ s t, p s → p t → p (tm s t)) (here x : Int) (P : List Int) : p (fo nu tm here x P) := by
  unfold fo
  suffices ∀ (P : List Int) (a : ByteArray), p a → p (P.foldl (fun acc y => if y ≠ here then tm acc (nu (y - x)) else acc) a) from this P _ (h1 1)
  intro P
  induction P with
  | nil => exact fun a h => h
  | cons y P ih =>
    intro a h
    rw [List.foldl_cons]
    refine ih _ ?_
    split
    · exact h2 _ _ h (h1 _)
    · exact h
set_option maxHeartbeats 4000000 in
theorem weight24 {w : World} {z : Int} {a : Option Addr} {c : Nat} {P : List Int} {here x : Int} {nu : Int → ByteArray} {tm : ByteArray → ByteArray → ByteArray} {p : ByteArray → Prop} {r : ByteArray} (hn : P.length ≤ 16) (hP : ∀ y ∈ P, 0 ≤ y ∧ y ≤ 255) (hh : 0 ≤ here ∧ here ≤ 255) (hx : 0 ≤ x ∧ x ≤ 255) (hs : IL w a P)
    (h1 : ∀ k, p (nu k)) (h2 : ∀ s t, p s → p t → p (tm s t))
    (CN : Hid (∀ k, -255 ≤ k → k ≤ 255 → ∀ W, Calls Tryz.prog 41 #[.agg #[.int .i64 z], .int .i64 k] W fun e w' => e = .returned (.string (nu k)) ∧ Below W.heap.size W w'))
    (CT : Hid (∀ s t, p s → p t → ∀ W, Calls Tryz.prog 43 #[.agg #[.int .i64 z], .string s, .string t] W fun e w' => e = .returned (.string (tm s t)) ∧ Below W.heap.size W w'))
    (CO : Hid (∀ W, Calls Tryz.prog 56 #[.agg #[.int .i64 z], .string (fo nu tm here x P), .string (fo nu tm here here P)] W fun e w' => e = .returned (.string r) ∧ Below W.heap.size W w')) :
    Calls Tryz.prog 32 #[.agg #[.int .i64 z, .slice a P.length c], .int .i64 here, .int .i64 x] w fun e w' => e = .returned (.string r) ∧ Below w.heap.size w w' := by
  have HS : Hid (IL w a P) := hs
  have HP : Hid _ := hP
  have HA : Hid _ := fun Q => fo_sc (p := p) h1 h2 here x Q
  have HB : Hid _ := fun Q => fo_sc (p := p) h1 h2 here here Q
  have HN : Hid _ := h1
  have C1 : Hid (∀ W, Calls Tryz.prog 41 #[.agg #[.int .i64 z], .int .i64 1] W fun e w' => e = .returned (.string (nu 1)) ∧ Below W.heap.size W w') := fun W => CN.out 1 (by omega) (by omega) W
  have e0 : fo nu tm here x [] = nu 1 := rfl
  have e1 : fo nu tm here here [] = nu 1 := rfl
  have E0 : Hid _ := e0
  have E1 : Hid _ := e1
  obtain ⟨hh0, hh1⟩ := hh
  obtain ⟨hx0, hx1⟩ := hx
  clear hs hP h1 h2 e0 e1
  go_enter Tryz.func32, Tryz.ntmps32
  go_wp2_with fail
  obtain ⟨U1, hU1⟩ : ∃ X, X = (w.alloc (.cells #[.int .i64 z, .slice a P.length c] 35)) := ⟨_, rfl⟩
  have Jp : Hid (IHolds U1 (w.heap.size) 35 [.int .i64 z, .slice a P.length c]) := by
    have q := IHolds.new w 35 [.int .i64 z, .slice a P.length c]
    show IHolds _ _ _ _
    rw [hU1]
    exact q
  have B : Hid (Below w.heap.size w U1) := by
    show Below _ _ _
    rw [hU1]
    exact ((Below.refl _ w).alloc (Nat.le_refl _) _)
  rw [← hU1]
  clear hU1
  have hb := dB U1
  replace B := aB B hb
  replace Jp := aJ Jp hb
  clear hb
  refine wp_region_held_drew (S := fun W => (IHolds W (w.heap.size) 35 [.int .i64 z, .slice a P.length c])) (by kernel_rfl) Jp.out (fun hHeld1 => ?_)
  generalize U1.drew = U2 at *
  refine tk (i := 0) (v := .pointer (some ⟨w.heap.size, 0, none⟩)) rfl (by kernel_rfl) (fun _ _ _ h => h) rfl ?_ hHeld1 ?_
  · intro W hS; go_simp
  simp only [Act.put, y1, y2, y3, y4, y5, y6, y7]
  refine tk (i := 3) (v := .pointer (some ⟨w.heap.size, 0, none⟩)) rfl (by kernel_rfl) (fun _ _ _ h => h) rfl ?_ hHeld1 ?_
  · intro W hS; go_simp
  simp only [Act.put, y1, y2, y3, y4, y5, y6, y7]
  refine tk (i := 1) (v := .agg #[.int .i64 z]) rfl (by kernel_rfl) (fun _ _ _ h => h) rfl ?_ hHeld1 ?_
  · intro W hS; obtain ⟨zp_0, zp_1⟩ := c2 hS; go_simp
  simp only [Act.put, y1, y2, y3, y4, y5, y6, y7]
  refine tk (i := 4) (v := .agg #[.int .i64 z]) rfl (by kernel_rfl) (fun _ _ _ h => h) rfl ?_ hHeld1 ?_
  · intro W hS; obtain ⟨zp_0, zp_1⟩ := c2 hS; go_simp
  simp only [Act.put, y1, y2, y3, y4, y5, y6, y7]
  refine wpAnyH_ready (rs := [2]) (by kernel_rfl) (by simp) ?_
  refine AllReadyH.cons rfl (fun K hK => ?_) AllReadyH.nil
  clear hHeld1
  go_simp
  refine (C1.out U2).mono ?_
  rintro e U3 ⟨rfl, hb⟩
  replace B := aB B hb
  replace Jp := aJ Jp hb
  clear hb
  go_wp2_with fail
  refine hK.out _ _ (Jp.out) (fun hHeld2 => ?_)
  clear hK K
  try simp only [Act.put, y1, y2, y3, y4, y5, y6, y7]
  refine wpAnyH_ready (rs := [5]) (by kernel_rfl) (by simp) ?_
  refine AllReadyH.cons rfl (fun K hK => ?_) AllReadyH.nil
  clear hHeld2
  go_simp
  refine (C1.out U3).mono ?_
  rintro e U4 ⟨rfl, hb⟩
  replace B := aB B hb
  replace Jp := aJ Jp hb
  clear hb
  go_wp2_with fail
  refine hK.out _ _ (Jp.out) (fun hHeld3 => ?_)
  clear hK K
  try simp only [Act.put, y1, y2, y3, y4, y5, y6, y7]
  refine tk (i := 6) (v := .string (nu 1)) rfl (by kernel_rfl) (fun _ _ _ h => h) rfl ?_ hHeld3 ?_
  · intro W hS; go_simp
  simp only [Act.put, y1, y2, y3, y4, y5, y6, y7]
  refine tk (i := 7) (v := .string (nu 1)) rfl (by kernel_rfl) (fun _ _ _ h => h) rfl ?_ hHeld3 ?_
  · intro W hS; go_simp
  simp only [Act.put, y1, y2, y3, y4, y5, y6, y7]
  refine wpAnyH_done (by kernel_rfl) ?_ _
  clear hHeld3
  obtain ⟨zp_0, zp_1⟩ := cJ Jp
  go_wp2_with fail
  clear zp_0 zp_1
  generalize hW0 : U4 = W0 at *
  clear hW0
  go_loopg [7, 8, 10, 20] P.length (fun gk v7 v8 v10 v20 wr => ∃ i : Nat, i + gk = P.length ∧ v20 = .int .i64 (i : Int) ∧ v7 = .string (fo nu tm here x (P.take i)) ∧ v8 = .string (fo nu tm here here (P.take i)) ∧ Below w.heap.size w wr ∧ IHolds wr w.heap.size 35 [.int .i64 z, .slice a P.length c])
  case atStart => exact ⟨0, by omega, rfl, by rw [List.take_zero, E0.out], by rw [List.take_zero, E1.out], B.out, Jp.out⟩
  case round =>
    obtain ⟨i, hig, rfl, rfl, rfl, hB, hJ⟩ := hrel
    clear B Jp
    have B : Hid (Below w.heap.size w wr) := hB
    have Jp : Hid (IHolds wr w.heap.size 35 [.int .i64 z, .slice a P.length c]) := hJ
    clear hB hJ
    by_cases hi : i < P.length
    · obtain ⟨b, o, rfl, hc⟩ := HS.out.of_below B.out i hi
      have il : (i : Int) < (P.length : Int) := by omega
      obtain ⟨ya, yb⟩ := HP.out _ (List.getElem_mem hi)
      have HY : Hid (P[i] ≠ here → fo nu tm here x (P.take (i + 1)) = tm (fo nu tm here x (P.take i)) (nu (P[i] - x)) ∧ fo nu tm here here (P.take (i + 1)) = tm (fo nu tm here here (P.take i)) (nu (P[i] - here))) := fun h => ⟨fo_yes hi h, fo_yes hi h⟩
      have HZ : Hid (P[i] = here → fo nu tm here x (P.take (i + 1)) = fo nu tm here x (P.take i) ∧ fo nu tm here here (P.take (i + 1)) = fo nu tm here here (P.take i)) := fun h => ⟨fo_no hi h, fo_no hi h⟩
      have PA := HA.out (P.take i)
      have PB := HB.out (P.take i)
      generalize P[i] = y at *
      generalize fo nu tm here x (P.take i) = A at *
      generalize fo nu tm here here (P.take i) = D at *
      by_cases hy : y = here
      · obtain ⟨z1, z2⟩ := HZ.out hy
        have Z1 : Hid _ := z1
        have Z2 : Hid _ := z2
        have hb : (y != here) = false := by simpa using hy
        clear z1 z2 HY HZ hy PA PB
        go_wp2_with fail
        go_roundg (gk - 1)
        case measure => omega
        case rel => exact ⟨i + 1, by omega, by go_num, by rw [Z1.out], by rw [Z2.out], B.out, Jp.out⟩
      · obtain ⟨z1, z2⟩ := HY.out hy
        have Z1 : Hid _ := z1
        have Z2 : Hid _ := z2
        have hb : (y != here) = true := by simpa using hy
        have D1 : Hid (∀ W, Calls Tryz.prog 41 #[.agg #[.int .i64 z], .int .i64 (y - x)] W fun e w' => e = .returned (.string (nu (y - x))) ∧ Below W.heap.size W w') := fun W => CN.out _ (by omega) (by omega) W
        have D2 : Hid (∀ W, Calls Tryz.prog 43 #[.agg #[.int .i64 z], .string A, .string (nu (y - x))] W fun e w' => e = .returned (.string (tm A (nu (y - x)))) ∧ Below W.heap.size W w') := fun W => CT.out _ _ PA (HN.out _) W
        have D3 : Hid (∀ W, Calls Tryz.prog 41 #[.agg #[.int .i64 z], .int .i64 (y - here)] W fun e w' => e = .returned (.string (nu (y - here))) ∧ Below W.heap.size W w') := fun W => CN.out _ (by omega) (by omega) W
        have D4 : Hid (∀ W, Calls Tryz.prog 43 #[.agg #[.int .i64 z], .string D, .string (nu (y - here))] W fun e w' => e = .returned (.string (tm D (nu (y - here)))) ∧ Below W.heap.size W w') := fun W => CT.out _ _ PB (HN.out _) W
        have hw1 : IntKind.i64.wrap (y - x) = y - x := wrap_small (by omega) (by omega)
        have hw2 : IntKind.i64.wrap (y - here) = y - here := wrap_small (by omega) (by omega)
        clear z1 z2 HY HZ hy PA PB CN CT HA HB HN CO C1
        go_wp2_with fail
        clear hc
        have hb := dB wr
        replace B := aB B hb
        replace Jp := aJ Jp hb
        clear hb
        refine wp_region_held_drew (S := fun W => (IHolds W (w.heap.size) 35 [.int .i64 z, .slice (some ⟨b, o, none⟩) P.length c])) (by kernel_rfl) Jp.out (fun hHeld1 => ?_)
        generalize wr.drew = U501 at *
        refine tk (i := 0) (v := .pointer (some ⟨w.heap.size, 0, none⟩)) rfl (by kernel_rfl) (fun _ _ _ h => h) rfl ?_ hHeld1 ?_
        · intro W hS; go_simp
        simp only [Act.put, y1, y2, y3, y4, y5, y6, y7]
        refine tk (i := 2) (v := .string A) rfl (by kernel_rfl) (fun _ _ _ h => h) rfl ?_ hHeld1 ?_
        · intro W hS; go_simp
        simp only [Act.put, y1, y2, y3, y4, y5, y6, y7]
        refine tk (i := 3) (v := .pointer (some ⟨w.heap.size, 0, none⟩)) rfl (by kernel_rfl) (fun _ _ _ h => h) rfl ?_ hHeld1 ?_
        · intro W hS; go_simp
        simp only [Act.put, y1, y2, y3, y4, y5, y6, y7]
        refine tk (i := 5) (v := .int .i64 y) rfl (by kernel_rfl) (fun _ _ _ h => h) rfl ?_ hHeld1 ?_
        · intro W hS; go_simp
        simp only [Act.put, y1, y2, y3, y4, y5, y6, y7]
        refine tk (i := 6) (v := .int .i64 x) rfl (by kernel_rfl) (fun _ _ _ h => h) rfl ?_ hHeld1 ?_
        · intro W hS; go_simp
        simp only [Act.put, y1, y2, y3, y4, y5, y6, y7]
        refine tk (i := 1) (v := .agg #[.int .i64 z]) rfl (by kernel_rfl) (fun _ _ _ h => h) rfl ?_ hHeld1 ?_
        · intro W hS; obtain ⟨zp_0, zp_1⟩ := c2 hS; go_simp
        simp only [Act.put, y1, y2, y3, y4, y5, y6, y7]
        refine tk (i := 4) (v := .agg #[.int .i64 z]) rfl (by kernel_rfl) (fun _ _ _ h => h) rfl ?_ hHeld1 ?_
        · intro W hS; obtain ⟨zp_0, zp_1⟩ := c2 hS; go_simp
        simp only [Act.put, y1, y2, y3, y4, y5, y6, y7]
        refine tk (i := 7) (v := .int .i64 (y - x)) rfl (by kernel_rfl) (fun _ _ _ h => h) rfl ?_ hHeld1 ?_
        · intro W hS; go_simp
        simp only [Act.put, y1, y2, y3, y4, y5, y6, y7]
        refine wpAnyH_ready (rs := [8]) (by kernel_rfl) (by simp) ?_
        refine AllReadyH.cons rfl (fun K hK => ?_) AllReadyH.nil
        clear hHeld1
        go_simp
        refine (D1.out U501).mono ?_
        rintro e U502 ⟨rfl, hb⟩
        replace B := aB B hb
        replace Jp := aJ Jp hb
        clear hb
        go_wp2_with fail
        refine hK.out _ _ (Jp.out) (fun hHeld2 => ?_)
        clear hK K
        try simp only [Act.put, y1, y2, y3, y4, y5, y6, y7]
        refine wpAnyH_ready (rs := [9]) (by kernel_rfl) (by simp) ?_
        refine AllReadyH.cons rfl (fun K hK => ?_) AllReadyH.nil
        clear hHeld2
        go_simp
        refine (D2.out U502).mono ?_
        rintro e U503 ⟨rfl, hb⟩
        replace B := aB B hb
        replace Jp := aJ Jp hb
        clear hb
        go_wp2_with fail
        refine hK.out _ _ (Jp.out) (fun hHeld3 => ?_)
        clear hK K
        try simp only [Act.put, y1, y2, y3, y4, y5, y6, y7]
        refine tk (i := 10) (v := .string (tm A (nu (y - x)))) rfl (by kernel_rfl) (fun _ _ _ h => h) rfl ?_ hHeld3 ?_
        · intro W hS; go_simp
        simp only [Act.put, y1, y2, y3, y4, y5, y6, y7]
        refine wpAnyH_done (by kernel_rfl) ?_ _
        clear hHeld3
        go_wp2_with fail
        have hb := dB U503
        replace B := aB B hb
        replace Jp := aJ Jp hb
        clear hb
        refine wp_region_held_drew (S := fun W => (IHolds W (w.heap.size) 35 [.int .i64 z, .slice (some ⟨b, o, none⟩) P.length c])) (by kernel_rfl) Jp.out (fun hHeld4 => ?_)
        generalize U503.drew = U504 at *
        refine tk (i := 0) (v := .pointer (some ⟨w.heap.size, 0, none⟩)) rfl (by kernel_rfl) (fun _ _ _ h => h) rfl ?_ hHeld4 ?_
        · intro W hS; go_simp
        simp only [Act.put, y1, y2, y3, y4, y5, y6, y7]
        refine tk (i := 2) (v := .string D) rfl (by kernel_rfl) (fun _ _ _ h => h) rfl ?_ hHeld4 ?_
        · intro W hS; go_simp
        simp only [Act.put, y1, y2, y3, y4, y5, y6, y7]
        refine tk (i := 3) (v := .pointer (some ⟨w.heap.size, 0, none⟩)) rfl (by kernel_rfl) (fun _ _ _ h => h) rfl ?_ hHeld4 ?_
        · intro W hS; go_simp
        simp only [Act.put, y1, y2, y3, y4, y5, y6, y7]
        refine tk (i := 5) (v := .int .i64 y) rfl (by kernel_rfl) (fun _ _ _ h => h) rfl ?_ hHeld4 ?_
        · intro W hS; go_simp
        simp only [Act.put, y1, y2, y3, y4, y5, y6, y7]
        refine tk (i := 6) (v := .int .i64 here) rfl (by kernel_rfl) (fun _ _ _ h => h) rfl ?_ hHeld4 ?_
        · intro W hS; go_simp
        simp only [Act.put, y1, y2, y3, y4, y5, y6, y7]
        refine tk (i := 1) (v := .agg #[.int .i64 z]) rfl (by kernel_rfl) (fun _ _ _ h => h) rfl ?_ hHeld4 ?_
        · intro W hS; obtain ⟨zp_0, zp_1⟩ := c2 hS; go_simp
        simp only [Act.put, y1, y2, y3, y4, y5, y6, y7]
        refine tk (i := 4) (v := .agg #[.int .i64 z]) rfl (by kernel_rfl) (fun _ _ _ h => h) rfl ?_ hHeld4 ?_
        · intro W hS; obtain ⟨zp_0, zp_1⟩ := c2 hS; go_simp
        simp only [Act.put, y1, y2, y3, y4, y5, y6, y7]
        refine tk (i := 7) (v := .int .i64 (y - here)) rfl (by kernel_rfl) (fun _ _ _ h => h) rfl ?_ hHeld4 ?_
        · intro W hS; go_simp
        simp only [Act.put, y1, y2, y3, y4, y5, y6, y7]
        refine wpAnyH_ready (rs := [8]) (by kernel_rfl) (by simp) ?_
        refine AllReadyH.cons rfl (fun K hK => ?_) AllReadyH.nil
        clear hHeld4
        go_simp
        refine (D3.out U504).mono ?_
        rintro e U505 ⟨rfl, hb⟩
        replace B := aB B hb
        replace Jp := aJ Jp hb
        clear hb
        go_wp2_with fail
        refine hK.out _ _ (Jp.out) (fun hHeld5 => ?_)
        clear hK K
        try simp only [Act.put, y1, y2, y3, y4, y5, y6, y7]
        refine wpAnyH_ready (rs := [9]) (by kernel_rfl) (by simp) ?_
        refine AllReadyH.cons rfl (fun K hK => ?_) AllReadyH.nil
        clear hHeld5
        go_simp
        refine (D4.out U505).mono ?_
        rintro e U506 ⟨rfl, hb⟩
        replace B := aB B hb
        replace Jp := aJ Jp hb
        clear hb
        go_wp2_with fail
        refine hK.out _ _ (Jp.out) (fun hHeld6 => ?_)
        clear hK K
        try simp only [Act.put, y1, y2, y3, y4, y5, y6, y7]
        refine tk (i := 10) (v := .string (tm D (nu (y - here)))) rfl (by kernel_rfl) (fun _ _ _ h => h) rfl ?_ hHeld6 ?_
        · intro W hS; go_simp
        simp only [Act.put, y1, y2, y3, y4, y5, y6, y7]
        refine wpAnyH_done (by kernel_rfl) ?_ _
        clear hHeld6
        go_wp2_with fail
        go_roundg (gk - 1)
        case measure => omega
        case rel => exact ⟨i + 1, by omega, by go_num, by rw [Z1.out], by rw [Z2.out], B.out, Jp.out⟩
    · have il : ¬ (i : Int) < (P.length : Int) := by omega
      have e : P.take i = P := List.take_of_length_le (by omega)
      rw [e]
      clear e CN CT HA HB HN C1
      obtain ⟨q0, q1⟩ := Go.Proofs.YtlimogamjgehjaaGreat.c2 Jp.out
      go_wp2_with (go_at_call 56; refine (CO.out _).mono ?_; rintro e w9 ⟨rfl, hB9⟩; have B9 : Hid (Below w.heap.size w w9) := B.out.trans (hB9.mono B.out.size); clear hB9)
      go_ret
      exact ⟨rfl, B9.out⟩
end Go.Proofs.YtlimogamjgehjaaGreat
namespace Go.Proofs.YtlimogamjgehjaaGreat
open Go.RowKit Go.Deep Go.PlainAid

theorem Tryz.info9' : (Tryz.prog.info? 9).map (fun i => (i.zero, i.size, i.bytes)) = some (some (.string ⟨#[]⟩), 1, 16) := by kernel_rfl
theorem Tryz.under23 : Tryz.prog.underlying 23 = some (.slice 9) := by kernel_rfl
/-- Texts that are made, then empty ones. -/
def half (q : List ByteArray) (n i : Nat) : List Value := (q.take i).map Value.string ++ List.replicate (n - i) (.string ⟨#[]⟩)
theorem half_zero (q : List ByteArray) (n : Nat) : half q n 0 = List.replicate n (.string ⟨#[]⟩) := by simp [half]
theorem half_set {q : List ByteArray} {n i : Nat} (hq : q.length = n) (hi : i < n) (hi' : i < q.length) : (half q n i).set i (.string q[i]) = half q n (i + 1) := by
  unfold half
  have hl : ((q.take i).map Value.string).length = i := by simp; omega
  rw [List.set_append_right _ _ (by omega), hl, Nat.sub_self, List.take_succ_eq_append_getElem hi', List.map_append, List.append_assoc]
  congr 1
  obtain ⟨k, hk⟩ : ∃ k, n - i = k + 1 := ⟨n - i - 1, by omega⟩
  rw [hk, show n - (i + 1) = k by omega, List.replicate_succ]
  simp
theorem half_length {q : List ByteArray} {n i : Nat} (hq : q.length = n) (hi : i ≤ n) : (half q n i).length = n := by unfold half; simp; omega
theorem half_full {q : List ByteArray} {n : Nat} (hq : q.length = n) : half q n n = q.map Value.string := by unfold half; simp [List.take_of_length_le (Nat.le_of_eq hq)]
theorem IHolds.sl {w : World} {b : Nat} {t : TypeId} {q : List ByteArray} (h : IHolds w b t (q.map Value.string)) : SL w (some ⟨b, 0, none⟩) q := by
  intro i hi
  refine ⟨b, 0, rfl, ?_⟩
  rw [Nat.zero_add, h.cell i (by simpa using hi)]
  simp
theorem make23 (z : Int) (n : Nat) (hz : z = (n : Int)) (hn : n ≤ 4294967296) (w : World) : (Instr.makeSlice 23 (.int .i64 z) (.int .i64 z)).run Tryz.prog w = .ok (.slice (some ⟨w.heap.size, 0, none⟩) n n) (w.alloc (.cells (List.replicate n (Value.string ⟨#[]⟩)).toArray 9)) := by
  subst hz
  have := run_make_row' (P := Tryz.prog) 23 9 (.string ⟨#[]⟩) 16 Tryz.under23 Tryz.info9' rfl .i64 .i64 n (by omega) (by omega) w
  rw [this]
  have e : madeCells #[Value.string ⟨#[]⟩] n = (List.replicate n (Value.string ⟨#[]⟩)).toArray := by
    apply Array.toList_inj.1
    rw [toList_madeCells_one]
  rw [e]
set_option maxHeartbeats 4000000 in
theorem weights15 {w : World} {z x : Int} {a : Option Addr} {c : Nat} {P : List Int} {q : List ByteArray} (hn : P.length ≤ 16) (hql : q.length = P.length) (hs : IL w a P)
    (CW : ∀ i (h : i < P.length) (h' : i < q.length) W, Below w.heap.size w W → Calls Tryz.prog 32 #[.agg #[.int .i64 z, .slice a P.length c], .int .i64 P[i], .int .i64 x] W fun e w' => e = .returned (.string q[i]) ∧ Below W.heap.size W w') :
    Calls Tryz.prog 12 #[.agg #[.int .i64 z, .slice a P.length c], .int .i64 x] w fun e w' => (∃ a' c', e = .returned (.slice a' P.length c') ∧ SL w' a' q) ∧ Below w.heap.size w w' := by
  have HS : Hid (IL w a P) := hs
  have HQ : Hid (q.length = P.length) := hql
  have HW : Hid _ := CW
  clear hs hql CW
  generalize hW1 : w.alloc (.cells #[.int .i64 z, .slice a P.length c] 35) = W1
  have z1 : W1.heap.size = w.heap.size + 1 := by rw [← hW1]; simp
  obtain ⟨W2, hW2⟩ : ∃ W2, W2 = W1.alloc (.cells (List.replicate P.length (Value.string ⟨#[]⟩)).toArray 9) := ⟨_, rfl⟩
  have hmk : (Instr.makeSlice 23 (.int .i64 (P.length : Int)) (.int .i64 (P.length : Int))).run Tryz.prog W1 = .ok (.slice (some ⟨w.heap.size + 1, 0, none⟩) P.length P.length) W2 := by rw [make23 _ P.length rfl (by omega), hW2, z1]
  have JB : Hid (Below w.heap.size w W2) := by rw [hW2, ← hW1]; exact ((Below.refl _ w).alloc (Nat.le_refl _) _).alloc (by simp) _
  have JP1 : Hid (IHolds W1 w.heap.size 35 [.int .i64 z, .slice a P.length c]) := by rw [← hW1]; exact IHolds.new w 35 [_, _]
  have JP : Hid (IHolds W2 w.heap.size 35 [.int .i64 z, .slice a P.length c]) := by rw [hW2]; exact JP1.out.alloc _
  have JI : Hid (IHolds W2 (w.heap.size + 1) 9 (half q P.length 0)) := by rw [hW2, half_zero]; exact IHolds.new' _ _ _ z1
  have j0 : W1.cell? ⟨w.heap.size, 1, none⟩ = some (.slice a P.length c) := JP1.out.cell 1 (by simp)
  have j1 : W2.cell? ⟨w.heap.size, 1, none⟩ = some (.slice a P.length c) := JP.out.cell 1 (by simp)
  clear hW2 z1 JP1
  go_enter Tryz.func12, Tryz.ntmps12
  go_wp2_with fail
  clear j0 j1 hmk hW1
  go_loopg [6, 7, 15] P.length (fun gk v6 v7 v15 wr => ∃ i : Nat, i + gk = P.length ∧ v15 = .int .i64 (i : Int) ∧ Below w.heap.size w wr ∧ IHolds wr w.heap.size 35 [.int .i64 z, .slice a P.length c] ∧ IHolds wr (w.heap.size + 1) 9 (half q P.length i))
  case atStart => exact ⟨0, by omega, rfl, JB.out, JP.out, JI.out⟩
  case round =>
    obtain ⟨i, hig, rfl, hB, hJ, hI⟩ := hrel
    have B : Hid (Below w.heap.size w wr) := hB
    have J : Hid (IHolds wr w.heap.size 35 [.int .i64 z, .slice a P.length c]) := hJ
    have I : Hid (IHolds wr (w.heap.size + 1) 9 (half q P.length i)) := hI
    clear hB hI hJ JB JP JI
    by_cases hi : i < P.length
    · have hi3 : i < q.length := by have := HQ.out; omega
      have il : (i : Int) < (P.length : Int) := by omega
      have hcall := HW.out i hi hi3 wr B.out
      obtain ⟨b1, o1, rfl, hc1⟩ := HS.out.of_below B.out i hi
      have HH : Hid _ := half_set HQ.out hi hi3
      have HL : Hid ((half q P.length i).length = P.length) := half_length HQ.out (by omega)
      obtain ⟨q0, q1⟩ := c2 J.out
      generalize P[i] = s at *
      generalize q[i] = r at *
      go_wp2_with (go_at_call 32; refine hcall.mono ?_; rintro e w3 ⟨rfl, hB3⟩; have B3 : Hid (Below w.heap.size w w3) := B.out.trans (hB3.mono B.out.size); have J3 : Hid _ := J.out.of_below hB3; have I3 : Hid (IHolds w3 (w.heap.size + 1) 9 (half q P.length i)) := I.out.of_below hB3; have f3 : w3.frozen? ⟨w.heap.size + 1, i, none⟩ = false := I3.out.frozen i; have g3 := I3.out.cell i (by have := HL.out; omega); clear hB3)
      have I4 : Hid (IHolds (w3.setCell ⟨w.heap.size + 1, i, none⟩ (.string r)) (w.heap.size + 1) 9 (half q P.length (i + 1))) := by
        have := I3.out.set i (.string r)
        rw [HH.out] at this
        exact this
      have B4 : Hid (Below w.heap.size w (w3.setCell ⟨w.heap.size + 1, i, none⟩ (.string r))) := Below.setCell B3.out (by show w.heap.size ≤ w.heap.size + 1; omega) _
      have J4 : Hid (IHolds (w3.setCell ⟨w.heap.size + 1, i, none⟩ (.string r)) w.heap.size 35 [.int .i64 z, .slice (some ⟨b1, o1, none⟩) P.length c]) := by
        unfold IHolds
        rw [Below.heap_setCell w3 ⟨w.heap.size + 1, i, none⟩ (.string r) w.heap.size (by show w.heap.size ≠ w.heap.size + 1; omega)]
        exact J3.out
      go_roundg (gk - 1)
      case measure => omega
      case rel => exact ⟨i + 1, by omega, by go_num, B4.out, J4.out, I4.out⟩
    · have il : ¬ (i : Int) < (P.length : Int) := by omega
      have e : i = P.length := by omega
      have I5 : Hid (SL wr (some ⟨w.heap.size + 1, 0, none⟩) q) := by
        have h := I.out
        rw [e, half_full HQ.out] at h
        exact h.sl
      clear e
      go_wp2_with fail
      go_ret
      exact ⟨⟨_, ⟨_, rfl⟩, I5.out⟩, B.out⟩
/-- The sum of weights times values. -/
def su (pl tm : ByteArray → ByteArray → ByteArray) (z0 : ByteArray) : List ByteArray → List ByteArray → ByteArray := fun ws vs => (List.zipWith tm ws vs).foldl pl z0
theorem su_take {pl tm : ByteArray → ByteArray → ByteArray} {z0 : ByteArray} {ws vs : List ByteArray} {i : Nat} (h : i < ws.length) (h' : i < vs.length) : su pl tm z0 (ws.take (i + 1)) (vs.take (i + 1)) = pl (su pl tm z0 (ws.take i) (vs.take i)) (tm ws[i] vs[i]) := by
  unfold su
  rw [← List.take_zipWith, ← List.take_zipWith, List.take_succ_eq_append_getElem (by simp; omega), List.foldl_append]
  simp
end Go.Proofs.YtlimogamjgehjaaGreat
namespace Go.Proofs.YtlimogamjgehjaaGreat
open Go.RowKit Go.Deep Go.PlainAid

set_option maxHeartbeats 4000000 in
theorem through8 {w : World} {z x : Int} {a b : Option Addr} {n c d : Nat} {ws vs : List ByteArray} {pl tm : ByteArray → ByteArray → ByteArray} {z0 : ByteArray} (hn : n ≤ 16) (hw : ws.length = n) (hv : vs.length = n) (hs : SL w b vs)
    (C14 : ∀ W, Calls Tryz.prog 41 #[.agg #[.int .i64 z], .int .i64 0] W fun e w' => e = .returned (.string z0) ∧ Below W.heap.size W w')
    (C15 : ∀ W, Below w.heap.size w W → Calls Tryz.prog 12 #[.agg #[.int .i64 z, .slice a n c], .int .i64 x] W fun e w' => (∃ a' c', e = .returned (.slice a' n c') ∧ SL w' a' ws) ∧ Below W.heap.size W w')
    (CT : ∀ i (h : i < ws.length) (h' : i < vs.length) W, Calls Tryz.prog 43 #[.agg #[.int .i64 z], .string ws[i], .string vs[i]] W fun e w' => e = .returned (.string (tm ws[i] vs[i])) ∧ Below W.heap.size W w')
    (CP : ∀ i (h : i < ws.length) (h' : i < vs.length) W, Calls Tryz.prog 42 #[.agg #[.int .i64 z], .string (su pl tm z0 (ws.take i) (vs.take i)), .string (tm ws[i] vs[i])] W fun e w' => e = .returned (.string (pl (su pl tm z0 (ws.take i) (vs.take i)) (tm ws[i] vs[i]))) ∧ Below W.heap.size W w') :
    Calls Tryz.prog 19 #[.agg #[.int .i64 z, .slice a n c], .slice b n d, .int .i64 x] w fun e w' => e = .returned (.string (su pl tm z0 ws vs)) ∧ Below w.heap.size w w' := by
  have HS : Hid (SL w b vs) := hs
  have H14 : Hid _ := C14
  have H15 : Hid _ := C15
  have HT : Hid _ := CT
  have HP : Hid _ := CP
  have HW : Hid (ws.length = n) := hw
  have HV : Hid (vs.length = n) := hv
  have E0 : Hid (su pl tm z0 [] [] = z0) := rfl
  clear hs C14 C15 CT CP hw hv
  have J0 : Hid (IHolds (w.alloc (.cells #[.int .i64 z, .slice a n c] 35)) w.heap.size 35 [.int .i64 z, .slice a n c]) := IHolds.new w 35 [_, _]
  have B0 : Hid (Below w.heap.size w (w.alloc (.cells #[.int .i64 z, .slice a n c] 35))) := nB w _
  go_enter Tryz.func19, Tryz.ntmps19
  go_wp2_with (first
    | (go_at_call 41; refine (H14.out _).mono ?_; rintro e w1 ⟨rfl, hB1⟩; have B1 : Hid (Below w.heap.size w w1) := B0.out.trans (hB1.mono B0.out.size); have J1 : Hid (IHolds w1 w.heap.size 35 [.int .i64 z, .slice a n c]) := J0.out.of_below hB1; obtain ⟨q0, q1⟩ := c2 J1.out; clear hB1 B0 J0)
    | (go_at_call 12; refine (H15.out _ B1.out).mono ?_; rintro e w2 ⟨⟨a2, c2', rfl, hs2⟩, hB2⟩; have B2 : Hid (Below w.heap.size w w2) := B1.out.trans (hB2.mono B1.out.size); have J2 : Hid (IHolds w2 w.heap.size 35 [.int .i64 z, .slice a n c]) := J1.out.of_below hB2; have S2 : Hid (SL w2 a2 ws) := hs2; clear hB2 hs2 B1 J1))
  clear q0 q1
  go_loopg [7, 8, 9, 17] n (fun gk v7 v8 v9 v17 wr => ∃ i : Nat, i + gk = n ∧ v17 = .int .i64 (i : Int) ∧ v7 = .string (su pl tm z0 (ws.take i) (vs.take i)) ∧ Below w2.heap.size w2 wr)
  case atStart => exact ⟨0, by omega, rfl, by rw [List.take_zero, List.take_zero, E0.out], Below.refl _ _⟩
  case round =>
    obtain ⟨i, hig, rfl, rfl, hB⟩ := hrel
    have BB : Hid (Below w2.heap.size w2 wr) := hB
    clear hB
    have B : Hid (Below w.heap.size w wr) := B2.out.trans (BB.out.mono B2.out.size)
    have J : Hid (IHolds wr w.heap.size 35 [.int .i64 z, .slice a n c]) := J2.out.of_below BB.out
    by_cases hi : i < n
    · have hi1 : i < ws.length := by have := HW.out; omega
      have hi2 : i < vs.length := by have := HV.out; omega
      have il : (i : Int) < (n : Int) := by omega
      have T1 : Hid _ := HT.out i hi1 hi2
      have T2 : Hid _ := HP.out i hi1 hi2
      have T3 : Hid _ := su_take (pl := pl) (tm := tm) (z0 := z0) hi1 hi2
      obtain ⟨b1, o1, rfl, hc1⟩ := S2.out.of_below BB.out i hi1
      obtain ⟨b2, o2, rfl, hc2⟩ := HS.out.of_below B.out i hi2
      have K2 : Hid _ := hc2
      generalize ws[i] = s at *
      generalize vs[i] = t at *
      generalize su pl tm z0 (ws.take i) (vs.take i) = A at *
      clear HT HP H14 H15 hi1 hi2
      go_wp2_with fail
      clear hc1 hc2
      refine wp_region_held_drew (S := fun W => IHolds W w.heap.size 35 [.int .i64 z, .slice a n c] ∧ W.cell? ⟨b2, o2 + i, none⟩ = some (.string t)) (by kernel_rfl) ⟨J.out, K2.out⟩ (fun hHeld => ?_)
      refine tk (i := 0) (v := .pointer (some ⟨w.heap.size, 0, none⟩)) rfl (by kernel_rfl) (fun _ _ _ h => h) rfl ?_ hHeld ?_
      · intro W hS; go_simp
      simp only [Act.put, y1, y2, y3, y4, y5, y6, y7]
      refine tk (i := 1) (v := .agg #[.int .i64 z]) rfl (by kernel_rfl) (fun _ _ _ h => h) rfl ?_ hHeld ?_
      · intro W hS; obtain ⟨x0, x1⟩ := Go.Proofs.YtlimogamjgehjaaGreat.c2 hS.1; clear hS; go_simp
      simp only [Act.put, y1, y2, y3, y4, y5, y6, y7]
      refine tk (i := 2) (v := .string A) rfl (by kernel_rfl) (fun _ _ _ h => h) rfl ?_ hHeld ?_
      · intro W hS; go_simp
      simp only [Act.put, y1, y2, y3, y4, y5, y6, y7]
      refine tk (i := 3) (v := .pointer (some ⟨w.heap.size, 0, none⟩)) rfl (by kernel_rfl) (fun _ _ _ h => h) rfl ?_ hHeld ?_
      · intro W hS; go_simp
      simp only [Act.put, y1, y2, y3, y4, y5, y6, y7]
      refine tk (i := 4) (v := .agg #[.int .i64 z]) rfl (by kernel_rfl) (fun _ _ _ h => h) rfl ?_ hHeld ?_
      · intro W hS; obtain ⟨x0, x1⟩ := Go.Proofs.YtlimogamjgehjaaGreat.c2 hS.1; clear hS; go_simp
      simp only [Act.put, y1, y2, y3, y4, y5, y6, y7]
      refine tk (i := 5) (v := .string s) rfl (by kernel_rfl) (fun _ _ _ h => h) rfl ?_ hHeld ?_
      · intro W hS; go_simp
      simp only [Act.put, y1, y2, y3, y4, y5, y6, y7]
      refine tk (i := 6) (v := .slice (some ⟨b2, o2, none⟩) n d) rfl (by kernel_rfl) (fun _ _ _ h => h) rfl ?_ hHeld ?_
      · intro W hS; go_simp
      simp only [Act.put, y1, y2, y3, y4, y5, y6, y7]
      refine tk (i := 7) (v := .int .i64 (i : Int)) rfl (by kernel_rfl) (fun _ _ _ h => h) rfl ?_ hHeld ?_
      · intro W hS; go_simp
      simp only [Act.put, y1, y2, y3, y4, y5, y6, y7]
      refine tk (i := 8) (v := .pointer (some ⟨b2, o2 + i, none⟩)) rfl (by kernel_rfl) (fun _ _ _ h => h) rfl ?_ hHeld ?_
      · intro W hS; go_simp
      simp only [Act.put, y1, y2, y3, y4, y5, y6, y7]
      refine tk (i := 9) (v := .string t) rfl (by kernel_rfl) (fun _ _ _ h => h) rfl ?_ hHeld ?_
      · intro W hS; have x5 := hS.2; clear hS; go_simp
      simp only [Act.put, y1, y2, y3, y4, y5, y6, y7]
      refine wpAnyH_ready (rs := [10]) (by kernel_rfl) (by simp) ?_
      refine AllReadyH.cons rfl (fun K hK => ?_) AllReadyH.nil
      go_simp
      refine (T1.out _).mono ?_
      rintro e w3 ⟨rfl, hB3⟩
      have B3 : Hid (Below w2.heap.size w2 w3) := BB.out.drew.trans (hB3.mono BB.out.size)
      have J3 : Hid (IHolds w3 w.heap.size 35 [.int .i64 z, .slice a n c]) := (J.out.of_below (dB wr)).of_below hB3
      have K3 : Hid _ := cell_keep (cell_keep K2.out (dB wr)) hB3
      clear hB3 T1
      go_wp2_with fail
      refine hK.out _ _ ⟨J3.out, K3.out⟩ (fun hHeld2 => ?_)
      clear hK K hHeld
      try simp only [Act.put, y1, y2, y3, y4, y5, y6, y7]
      refine wpAnyH_ready (rs := [11]) (by kernel_rfl) (by simp) ?_
      refine AllReadyH.cons rfl (fun K hK => ?_) AllReadyH.nil
      go_simp
      refine (T2.out _).mono ?_
      rintro e w4 ⟨rfl, hB4⟩
      have B4 : Hid (Below w2.heap.size w2 w4) := B3.out.trans (hB4.mono B3.out.size)
      have J4 : Hid (IHolds w4 w.heap.size 35 [.int .i64 z, .slice a n c]) := J3.out.of_below hB4
      have K4 : Hid _ := cell_keep K3.out hB4
      clear hB4 T2
      go_wp2_with fail
      refine hK.out _ _ ⟨J4.out, K4.out⟩ (fun hHeld3 => ?_)
      clear hK K hHeld2
      try simp only [Act.put, y1, y2, y3, y4, y5, y6, y7]
      refine tk (i := 12) (v := .string (pl A (tm s t))) rfl (by kernel_rfl) (fun _ _ _ h => h) rfl ?_ hHeld3 ?_
      · intro W hS; clear hS; go_simp
      simp only [Act.put, y1, y2, y3, y4, y5, y6, y7]
      refine wpAnyH_done (by kernel_rfl) ?_ _
      clear hHeld3
      go_wp2_with fail
      go_roundg (gk - 1)
      case measure => omega
      case rel => exact ⟨i + 1, by omega, by go_num, by rw [T3.out], B4.out⟩
    · have il : ¬ (i : Int) < (n : Int) := by omega
      have e1 : ws.take i = ws := List.take_of_length_le (by have := HW.out; omega)
      have e2 : vs.take i = vs := List.take_of_length_le (by have := HV.out; omega)
      rw [e1, e2]
      clear e1 e2
      go_wp2_with fail
      go_ret
      exact ⟨rfl, B.out⟩
set_option maxHeartbeats 2000000 in
theorem thr_places {w : World} {z x : Int} {a b : Option Addr} {n m c d : Nat} {k : Int} (C5 : ∀ W, Below w.heap.size w W → Calls Tryz.prog 11 #[.int .i64 z, .slice a n c] W fun e w' => e = .returned (.tuple #[.agg #[.int .i64 0, .slice none 0 0], .int .i64 k]) ∧ Below W.heap.size W w') (hk : (k == 0) = false) (hk2 : (k != 0) = true) :
    Calls Tryz.prog 7 #[.int .i64 z, .slice a n c, .slice b m d, .int .i64 x] w fun e w' => e = .returned (.tuple #[.string ⟨#[]⟩, .int .i64 k]) ∧ Below w.heap.size w w' := by
  have H5 : Hid _ := C5
  clear C5
  go_enter Tryz.func7, Tryz.ntmps7
  go_wp2_with (first | (go_at_call 11; refine (H5.out _ (Below.refl _ _)).mono ?_; rintro e w1 ⟨rfl, hB1⟩; have B1 : Hid (Below w.heap.size w (w1.alloc (.cells #[.int .i64 0, .slice none 0 0] 35))) := hB1.alloc hB1.size _; have I1 : Hid (IHolds (w1.alloc (.cells #[.int .i64 0, .slice none 0 0] 35)) w1.heap.size 35 [.int .i64 0, .slice none 0 0]) := IHolds.new _ _ _; clear hB1 H5))
  go_ret2
  exact ⟨rfl, B1.out⟩
set_option maxHeartbeats 2000000 in
theorem thr_wrong {w : World} {z x : Int} {a b : Option Addr} {n m c d : Nat} {k : Int} (C5 : ∀ W, Below w.heap.size w W → Calls Tryz.prog 11 #[.int .i64 z, .slice a n c] W fun e w' => e = .returned (.tuple #[.agg #[.int .i64 z, .slice a n c], .int .i64 0]) ∧ Below W.heap.size W w') (C6 : ∀ W, Below w.heap.size w W → Calls Tryz.prog 17 #[.agg #[.int .i64 z, .slice a n c], .slice b m d] W fun e w' => e = .returned (.int .i64 k) ∧ Below W.heap.size W w') (hk : (k == 0) = false) (hk2 : (k != 0) = true) :
    Calls Tryz.prog 7 #[.int .i64 z, .slice a n c, .slice b m d, .int .i64 x] w fun e w' => e = .returned (.tuple #[.string ⟨#[]⟩, .int .i64 k]) ∧ Below w.heap.size w w' := by
  have H5 : Hid _ := C5
  have H6 : Hid _ := C6
  clear C5 C6
  go_enter Tryz.func7, Tryz.ntmps7
  go_wp2_with (first | (go_at_call 11; refine (H5.out _ (Below.refl _ _)).mono ?_; rintro e w1 ⟨rfl, hB1⟩; have B1 : Hid (Below w.heap.size w (w1.alloc (.cells #[.int .i64 z, .slice a n c] 35))) := hB1.alloc hB1.size _; have I1 : Hid (IHolds (w1.alloc (.cells #[.int .i64 z, .slice a n c] 35)) w1.heap.size 35 [.int .i64 z, .slice a n c]) := IHolds.new _ _ _; clear hB1 H5) | (go_at_call 17; refine (H6.out _ B1.out).mono ?_; rintro e w2 ⟨rfl, hB2⟩; have B2 : Hid (Below w.heap.size w w2) := B1.out.trans (hB2.mono B1.out.size); have I2 : Hid (IHolds w2 w1.heap.size 35 [.int .i64 z, .slice a n c]) := I1.out.of_below hB2; clear hB2 H6))
  go_ret2
  exact ⟨rfl, B2.out⟩
set_option maxHeartbeats 2000000 in
theorem thr_range {w : World} {z x : Int} {a b : Option Addr} {n m c d : Nat} (C5 : ∀ W, Below w.heap.size w W → Calls Tryz.prog 11 #[.int .i64 z, .slice a n c] W fun e w' => e = .returned (.tuple #[.agg #[.int .i64 z, .slice a n c], .int .i64 0]) ∧ Below W.heap.size W w') (C6 : ∀ W, Below w.heap.size w W → Calls Tryz.prog 17 #[.agg #[.int .i64 z, .slice a n c], .slice b m d] W fun e w' => e = .returned (.int .i64 0) ∧ Below W.heap.size W w') (C7 : ∀ W, Calls Tryz.prog 18 #[.int .i64 x] W fun e w' => e = .returned (.bool true) ∧ Below W.heap.size W w') :
    Calls Tryz.prog 7 #[.int .i64 z, .slice a n c, .slice b m d, .int .i64 x] w fun e w' => e = .returned (.tuple #[.string ⟨#[]⟩, .int .i64 4]) ∧ Below w.heap.size w w' := by
  have H5 : Hid _ := C5
  have H6 : Hid _ := C6
  have H7 : Hid _ := C7
  clear C5 C6 C7
  go_enter Tryz.func7, Tryz.ntmps7
  go_wp2_with (first | (go_at_call 11; refine (H5.out _ (Below.refl _ _)).mono ?_; rintro e w1 ⟨rfl, hB1⟩; have B1 : Hid (Below w.heap.size w (w1.alloc (.cells #[.int .i64 z, .slice a n c] 35))) := hB1.alloc hB1.size _; have I1 : Hid (IHolds (w1.alloc (.cells #[.int .i64 z, .slice a n c] 35)) w1.heap.size 35 [.int .i64 z, .slice a n c]) := IHolds.new _ _ _; clear hB1 H5) | (go_at_call 17; refine (H6.out _ B1.out).mono ?_; rintro e w2 ⟨rfl, hB2⟩; have B2 : Hid (Below w.heap.size w w2) := B1.out.trans (hB2.mono B1.out.size); have I2 : Hid (IHolds w2 w1.heap.size 35 [.int .i64 z, .slice a n c]) := I1.out.of_below hB2; clear hB2 H6) | (go_at_call 18; refine (H7.out _).mono ?_; rintro e w3 ⟨rfl, hB3⟩; have B3 : Hid (Below w.heap.size w w3) := B2.out.trans (hB3.mono B2.out.size); have I3 : Hid (IHolds w3 w1.heap.size 35 [.int .i64 z, .slice a n c]) := I2.out.of_below hB3; obtain ⟨r0, r1⟩ := c2 I3.out; clear hB3 H7))
  go_ret2
  exact ⟨rfl, B3.out⟩
set_option maxHeartbeats 2000000 in
theorem thr_ok {w : World} {z x : Int} {a b : Option Addr} {n m c d : Nat} {r : ByteArray} (C5 : ∀ W, Below w.heap.size w W → Calls Tryz.prog 11 #[.int .i64 z, .slice a n c] W fun e w' => e = .returned (.tuple #[.agg #[.int .i64 z, .slice a n c], .int .i64 0]) ∧ Below W.heap.size W w') (C6 : ∀ W, Below w.heap.size w W → Calls Tryz.prog 17 #[.agg #[.int .i64 z, .slice a n c], .slice b m d] W fun e w' => e = .returned (.int .i64 0) ∧ Below W.heap.size W w') (C7 : ∀ W, Calls Tryz.prog 18 #[.int .i64 x] W fun e w' => e = .returned (.bool false) ∧ Below W.heap.size W w') (C8 : ∀ W, Below w.heap.size w W → Calls Tryz.prog 19 #[.agg #[.int .i64 z, .slice a n c], .slice b m d, .int .i64 x] W fun e w' => e = .returned (.string r) ∧ Below W.heap.size W w') :
    Calls Tryz.prog 7 #[.int .i64 z, .slice a n c, .slice b m d, .int .i64 x] w fun e w' => e = .returned (.tuple #[.string r, .int .i64 0]) ∧ Below w.heap.size w w' := by
  have H5 : Hid _ := C5
  have H6 : Hid _ := C6
  have H7 : Hid _ := C7
  have H8 : Hid _ := C8
  clear C5 C6 C7 C8
  go_enter Tryz.func7, Tryz.ntmps7
  go_wp2_with (first | (go_at_call 11; refine (H5.out _ (Below.refl _ _)).mono ?_; rintro e w1 ⟨rfl, hB1⟩; have B1 : Hid (Below w.heap.size w (w1.alloc (.cells #[.int .i64 z, .slice a n c] 35))) := hB1.alloc hB1.size _; have I1 : Hid (IHolds (w1.alloc (.cells #[.int .i64 z, .slice a n c] 35)) w1.heap.size 35 [.int .i64 z, .slice a n c]) := IHolds.new _ _ _; clear hB1 H5) | (go_at_call 17; refine (H6.out _ B1.out).mono ?_; rintro e w2 ⟨rfl, hB2⟩; have B2 : Hid (Below w.heap.size w w2) := B1.out.trans (hB2.mono B1.out.size); have I2 : Hid (IHolds w2 w1.heap.size 35 [.int .i64 z, .slice a n c]) := I1.out.of_below hB2; clear hB2 H6) | (go_at_call 18; refine (H7.out _).mono ?_; rintro e w3 ⟨rfl, hB3⟩; have B3 : Hid (Below w.heap.size w w3) := B2.out.trans (hB3.mono B2.out.size); have I3 : Hid (IHolds w3 w1.heap.size 35 [.int .i64 z, .slice a n c]) := I2.out.of_below hB3; obtain ⟨r0, r1⟩ := c2 I3.out; clear hB3 H7) | (go_at_call 19; refine (H8.out _ B3.out).mono ?_; rintro e w4 ⟨rfl, hB4⟩; have B4 : Hid (Below w.heap.size w w4) := B3.out.trans (hB4.mono B3.out.size); clear hB4 H8))
  go_ret2
  exact ⟨rfl, B4.out⟩
end Go.Proofs.YtlimogamjgehjaaGreat
