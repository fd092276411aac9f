/- unlike, place, wrongPair. -/
import Derived.Test.YtfbceknafmkipaaGreatSl3
set_option linter.unusedSimpArgs false
set_option linter.unusedVariables false
set_option maxRecDepth 100000
namespace Go.Proofs.YtfbceknafmkipaaGreat
open Go.RowKit Go.Deep Go.PlainAid

/-- Lists that are as long as each other, and not empty. -/
def evenB : List (List ByteArray) → List (List ByteArray) → Bool
  | [], [] => true
  | x :: l, y :: m => decide (x.length = y.length ∧ 0 < x.length) && evenB l m
  | _, _ => false
theorem evenB_snoc (x y : List ByteArray) : ∀ l m : List (List ByteArray), l.length = m.length → evenB (l ++ [x]) (m ++ [y]) = (evenB l m && decide (x.length = y.length ∧ 0 < x.length))
  | [], [], _ => by simp [evenB]
  | u :: l, v :: m, h => by
    rw [List.cons_append, List.cons_append, evenB, evenB, evenB_snoc x y l m (by simpa using h), Bool.and_assoc]
  | [], v :: m, h => by simp at h
  | u :: l, [], h => by simp at h
theorem evenB_len : ∀ l m : List (List ByteArray), evenB l m = true → l.length = m.length
  | [], [], _ => rfl
  | u :: l, v :: m, h => by
    rw [evenB, Bool.and_eq_true] at h
    simp [evenB_len l m h.2]
  | [], v :: m, h => by simp [evenB] at h
  | u :: l, [], h => by simp [evenB] at h
theorem evenB_at : ∀ (l m : List (List ByteArray)), evenB l m = true → ∀ i (h : i < l.length) (h' : i < m.length), (l[i]).length = (m[i]).length ∧ 0 < (l[i]).length
  | u :: l, v :: m, h, 0, _, _ => by
    rw [evenB, Bool.and_eq_true] at h
    exact of_decide_eq_true h.1
  | u :: l, v :: m, h, i + 1, h1, h2 => by
    rw [evenB, Bool.and_eq_true] at h
    exact evenB_at l m h.2 i (by simpa using h1) (by simpa using h2)
  | [], _, _, i, h, _ => by simp at h
  | u :: l, [], h, i, _, h' => by simp at h'
theorem evenB_of : ∀ (l m : List (List ByteArray)), l.length = m.length → (∀ i (h : i < l.length) (h' : i < m.length), (l[i]).length = (m[i]).length ∧ 0 < (l[i]).length) → evenB l m = true
  | [], [], _, _ => rfl
  | u :: l, v :: m, h, hh => by
    rw [evenB, Bool.and_eq_true]
    refine ⟨decide_eq_true (hh 0 (by simp) (by simp)), evenB_of l m (by simpa using h) (fun i h1 h2 => ?_)⟩
    exact hh (i + 1) (by simpa using h1) (by simpa using h2)
  | [], v :: m, h, _ => by simp at h
  | u :: l, [], h, _ => by simp at h
theorem evenB_take {l m : List (List ByteArray)} (h : l.length = m.length) {i : Nat} (hi : i < l.length) (hi' : i < m.length) : evenB (l.take (i + 1)) (m.take (i + 1)) = (evenB (l.take i) (m.take i) && decide ((l[i]).length = (m[i]).length ∧ 0 < (l[i]).length)) := by
  rw [List.take_succ_eq_append_getElem hi, List.take_succ_eq_append_getElem hi', evenB_snoc _ _ _ _ (by simp [h])]
set_option maxHeartbeats 1000000 in
theorem equal102 {w : World} {a b : Option Addr} {l m : List (List ByteArray)} {c d : Nat} (hl : l.length ≤ 9223372036854775807) (hs : SLL w a l) (hm : SLL w b m) :
    Calls Tryz.prog 107 #[.slice a l.length c, .slice b m.length d, .func (.func 108) #[] #[]] w fun e w' => e = .returned (.bool (evenB l m)) ∧ Below w.heap.size w w' := by
  by_cases hlen : l.length = m.length
  · have HS : Hid (SLL w a l) := hs
    have HM : Hid (SLL w b m) := hm
    have HE : Hid (l.length = m.length) := hlen
    rw [← hlen]
    clear hs hm hlen
    go_enter Tryz.func107, Tryz.ntmps107
    go_wp2_with fail
    go_loopg [7, 8, 9, 17] l.length (fun gk v7 v8 v9 v17 wr => ∃ i : Nat, i + gk = l.length ∧ v17 = .int .i64 (i : Int) ∧ Below w.heap.size w wr ∧ evenB (l.take i) (m.take i) = true)
    case atStart => exact ⟨0, by omega, rfl, Below.refl _ _, by simp [evenB]⟩
    case round =>
      obtain ⟨i, hig, rfl, hB, hn⟩ := hrel
      have B : Hid (Below w.heap.size w wr) := hB
      have HN : Hid (evenB (l.take i) (m.take i) = true) := hn
      clear hB hn
      by_cases hi : i < l.length
      · have hi2 : i < m.length := by have := HE.out; omega
        obtain ⟨b1, o1, a1, c1, rfl, hc1, hq1⟩ := HS.out.of_below B.out i hi
        obtain ⟨b2, o2, a2, c2, rfl, hc2, hq2⟩ := HM.out.of_below B.out i hi2
        have il : (i : Int) < (l.length : Int) := by omega
        have hcl := fun W => clos103 (w := W) (a := a1) (b := a2) (n := (l[i]).length) (m := (m[i]).length) (c := c1) (d := c2)
        have HT : Hid _ := evenB_take HE.out hi hi2
        have HF : Hid (decide ((l[i]).length = (m[i]).length ∧ 0 < (l[i]).length) = false → evenB l m = false) := fun h => by
          cases he : evenB l m with
          | false => rfl
          | true => exact absurd (evenB_at l m he i hi hi2) (of_decide_eq_false h)
        generalize decide ((l[i]).length = (m[i]).length ∧ 0 < (l[i]).length) = q at *
        generalize (l[i]).length = n1 at *
        generalize (m[i]).length = n2 at *
        clear hq1 hq2 hi2
        cases q with
        | true =>
          go_wp2_with (go_at_call 108; refine (hcl _).mono ?_; rintro e w3 ⟨rfl, hB3⟩)
          go_roundg (gk - 1)
          case measure => omega
          case rel => exact ⟨i + 1, by omega, by go_num, B.out.trans (hB3.mono B.out.size), by rw [HT.out, HN.out]; rfl⟩
        | false =>
          have HFF : Hid _ := HF.out rfl
          clear HF
          go_wp2_with (go_at_call 108; refine (hcl _).mono ?_; rintro e w3 ⟨rfl, hB3⟩)
          go_ret
          exact ⟨by rw [HFF.out]; rfl, B.out.trans (hB3.mono B.out.size)⟩
      · have il : ¬ (i : Int) < (l.length : Int) := by omega
        have HTT : Hid (evenB l m = true) := by
          have h := HN.out
          have he := HE.out
          rw [List.take_of_length_le (by omega), List.take_of_length_le (by omega)] at h
          exact h
        go_wp2_with fail
        go_ret
        exact ⟨by rw [HTT.out]; rfl, B.out⟩
  · have hne : ((l.length : Int) != (m.length : Int)) = true := by simp [bne]; omega
    have HF : Hid (evenB l m = false) := by
      cases he : evenB l m with
      | false => rfl
      | true => exact absurd (evenB_len l m he) hlen
    clear hs hm hlen
    go_enter Tryz.func107, Tryz.ntmps107
    go_wp2_with fail
    go_ret
    exact ⟨by rw [HF.out]; rfl, Below.refl _ _⟩
/-- Two proofs are not of one form. -/
def unl (xs ys : List ByteArray) (ll mm : List (List ByteArray)) : Bool := decide (xs.length = 0 ∨ ys.length ≠ xs.length ∨ ll.length ≠ xs.length) || !evenB ll mm
set_option maxHeartbeats 1000000 in
theorem unlike64 {w : World} {a1 a2 b1 b2 : Option Addr} {xs ys : List ByteArray} {ll mm : List (List ByteArray)} {c1 c2 d1 d2 : Nat} (hl : ll.length ≤ 9223372036854775807) (hs : SLL w a2 ll) (hm : SLL w b2 mm) :
    Calls Tryz.prog 81 #[.agg #[.slice a1 xs.length c1, .slice a2 ll.length c2], .agg #[.slice b1 ys.length d1, .slice b2 mm.length d2]] w fun e w' => e = .returned (.bool (unl xs ys ll mm)) ∧ Below w.heap.size w w' := by
  have J : Hid (Below w.heap.size w ((w.alloc (.cells #[.slice a1 xs.length c1, .slice a2 ll.length c2] 63)).alloc (.cells #[.slice b1 ys.length d1, .slice b2 mm.length d2] 63))) := ((Below.refl _ w).alloc (Nat.le_refl _) _).alloc (by simp) _
  have h := equal102 (c := c2) (d := d2) hl (hs.of_below J.out) (hm.of_below J.out)
  clear hs hm
  unfold unl
  generalize evenB ll mm = q at *
  generalize xs.length = n1 at *
  generalize ys.length = n2 at *
  generalize ll.length = n3 at *
  generalize mm.length = n4 at *
  by_cases h1 : n1 = 0
  · subst h1
    rw [decide_eq_true (Or.inl rfl)]
    go_enter Tryz.func81, Tryz.ntmps81
    go_wp2_with fail
    go_ret
    exact ⟨rfl, J.out⟩
  · have k1 : ((n1 : Int) == 0) = false := by simp; omega
    by_cases h2 : n2 = n1
    · subst h2
      by_cases h3 : n3 = n2
      · subst h3
        rw [decide_eq_false (by omega)]
        go_enter Tryz.func81, Tryz.ntmps81
        go_wp2_with (go_at_call 107; refine h.mono ?_; rintro e w1 ⟨rfl, hB1⟩)
        go_ret
        exact ⟨by simp, J.out.trans (hB1.mono J.out.size)⟩
      · have k3 : ((n3 : Int) != (n2 : Int)) = true := by simp [bne]; omega
        rw [decide_eq_true (Or.inr (Or.inr h3))]
        clear h
        go_enter Tryz.func81, Tryz.ntmps81
        go_wp2_with fail
        go_ret
        exact ⟨rfl, J.out⟩
    · have k2 : ((n2 : Int) != (n1 : Int)) = true := by simp [bne]; omega
      rw [decide_eq_true (Or.inr (Or.inl h2))]
      clear h
      go_enter Tryz.func81, Tryz.ntmps81
      go_wp2_with fail
      go_ret
      exact ⟨rfl, J.out⟩
end Go.Proofs.YtfbceknafmkipaaGreat
