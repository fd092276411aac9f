/- Lists of texts, and of lists; what the library's slices and sigma's own lists do with them. -/
import Derived.Test.YtfbceknafmkipaaGreatBa
set_option linter.unusedSimpArgs false
set_option linter.unusedVariables false
set_option maxRecDepth 100000
namespace Go.Proofs.YtfbceknafmkipaaGreat
open Go.RowKit Go.Deep Go.PlainAid

/-- A list of texts. -/
def SL (w : World) (a : Option Addr) (l : List ByteArray) : Prop := ∀ i (h : i < l.length), ∃ b o, a = some ⟨b, o, none⟩ ∧ w.cell? ⟨b, o + i, none⟩ = some (.string l[i])
theorem cell_lt {w : World} {b o : Nat} {v : Value} (h : w.cell? ⟨b, o, none⟩ = some v) : b < w.heap.size := by
  unfold World.cell? at h
  split at h
  · rename_i h1
    exact (Array.getElem?_eq_some_iff.1 h1).1
  · cases h
theorem SL.of_below {w w' : World} {a : Option Addr} {l : List ByteArray} (h : SL w a l) (hb : Below w.heap.size w w') : SL w' a l := by
  intro i hi
  obtain ⟨b, o, e, hc⟩ := h i hi
  exact ⟨b, o, e, (World.cell?_of_block (a := ⟨b, _, none⟩) (hb.block b (cell_lt hc))).trans hc⟩
/-- A list of lists of texts. -/
def SLL (w : World) (a : Option Addr) (l : List (List ByteArray)) : Prop := ∀ i (h : i < l.length), ∃ b o a' c', a = some ⟨b, o, none⟩ ∧ w.cell? ⟨b, o + i, none⟩ = some (.slice a' (l[i]).length c') ∧ SL w a' l[i]
theorem SLL.of_below {w w' : World} {a : Option Addr} {l : List (List ByteArray)} (h : SLL w a l) (hb : Below w.heap.size w w') : SLL w' a l := by
  intro i hi
  obtain ⟨b, o, a', c', e, hc, hs⟩ := h i hi
  exact ⟨b, o, a', c', e, (World.cell?_of_block (a := ⟨b, _, none⟩) (hb.block b (cell_lt hc))).trans hc, hs.of_below hb⟩
theorem any_take {α : Type} (p : α → Bool) {l : List α} {i : Nat} (h : i < l.length) : (l.take (i + 1)).any p = ((l.take i).any p || p l[i]) := by
  rw [List.take_succ_eq_append_getElem h, List.any_append, List.any_cons, List.any_nil, Bool.or_false]
theorem any_of {α : Type} (p : α → Bool) {l : List α} {i : Nat} (h : i < l.length) (hp : p l[i] = true) : l.any p = true := by
  rw [List.any_eq_true]; exact ⟨l[i], List.getElem_mem h, hp⟩
/-- A length that a slice can have. -/
def Len (n : Nat) : Prop := n ≤ 9223372036854775807
set_option maxHeartbeats 1000000 in
theorem index128 {w : World} {a : Option Addr} {l : List ByteArray} {c : Nat} {z : Int} (p : ByteArray → Bool) (hl : l.length ≤ 9223372036854775807) (hs : SL w a l)
    (CN : ∀ s W, Calls Tryz.prog 24 #[.agg #[.int .i64 z], .string s] W fun e w' => e = .returned (.bool (p s)) ∧ Below W.heap.size W w') :
    Calls Tryz.prog 91 #[.slice a l.length c, .func (.func 24) #[.agg #[.int .i64 z]] #[]] w fun e w' => (∃ r : Int, e = .returned (.int .i64 r) ∧ (decide (0 ≤ r)) = l.any p) ∧ Below w.heap.size w w' := by
  have HS : Hid (SL w a l) := hs
  have HL : Hid (l.length ≤ 9223372036854775807) := hl
  clear hs
  go_enter Tryz.func91, Tryz.ntmps91
  go_wp2_with fail
  go_loopg [5, 8] l.length (fun gk v5 v8 wr => ∃ i : Nat, i + gk = l.length ∧ v8 = .int .i64 (i : Int) ∧ Below w.heap.size w wr ∧ (l.take i).any p = false)
  case atStart => exact ⟨0, by omega, rfl, Below.refl _ _, by simp⟩
  case round =>
    obtain ⟨i, hig, rfl, hB, hn⟩ := hrel
    have B : Hid (Below w.heap.size w wr) := hB
    have HN : Hid ((l.take i).any p = false) := hn
    clear hB hn
    by_cases hi : i < l.length
    · obtain ⟨b, o, rfl, hc⟩ := HS.out.of_below B.out i hi
      have il : (i : Int) < (l.length : Int) := by omega
      have hcall := CN l[i]
      have HT : Hid _ := any_take p hi
      have HO : Hid _ := any_of p hi
      generalize l[i] = s at *
      cases hp : p s with
      | true =>
        rw [hp] at hcall
        go_wp2_with (go_at_call 24; refine (hcall _).mono ?_; rintro e w3 ⟨rfl, hB3⟩)
        go_ret
        exact ⟨⟨_, rfl, by rw [HO.out hp]; simp⟩, B.out.trans (hB3.mono B.out.size)⟩
      | false =>
        rw [hp] at hcall
        go_wp2_with (go_at_call 24; refine (hcall _).mono ?_; rintro e w3 ⟨rfl, hB3⟩)
        go_roundg (gk - 1)
        case measure => omega
        case rel => exact ⟨i + 1, by omega, by go_num, B.out.trans (hB3.mono B.out.size), by rw [HT.out, HN.out, hp]; rfl⟩
    · have il : ¬ (i : Int) < (l.length : Int) := by omega
      have e : i = l.length := by omega
      have hn := HN.out
      rw [e, List.take_length] at hn
      clear e
      go_wp2_with fail
      go_ret
      exact ⟨⟨_, rfl, by first | (rw [hn]; decide) | decide⟩, B.out⟩
theorem contains115 {w : World} {a : Option Addr} {l : List ByteArray} {c : Nat} {z : Int} (p : ByteArray → Bool) (hl : l.length ≤ 9223372036854775807) (hs : SL w a l)
    (CN : ∀ s W, Calls Tryz.prog 24 #[.agg #[.int .i64 z], .string s] W fun e w' => e = .returned (.bool (p s)) ∧ Below W.heap.size W w') :
    Calls Tryz.prog 70 #[.slice a l.length c, .func (.func 24) #[.agg #[.int .i64 z]] #[]] w fun e w' => e = .returned (.bool (l.any p)) ∧ Below w.heap.size w w' := by
  have h := index128 (c := c) p hl hs CN
  clear hs CN
  generalize l.any p = t at *
  go_enter Tryz.func70, Tryz.ntmps70
  go_wp2_with (go_at_call 91; refine h.mono ?_; rintro e w1 ⟨⟨r, rfl, hr⟩, hB1⟩)
  go_ret
  exact ⟨by rw [← hr]; rfl, hB1⟩
set_option maxHeartbeats 1000000 in
theorem scalars84 {w : World} {a : Option Addr} {l : List ByteArray} {c : Nat} {z : Int} (p : ByteArray → Bool) (hl : l.length ≤ 9223372036854775807) (hs : SL w a l)
    (CN : ∀ s W, Calls Tryz.prog 24 #[.agg #[.int .i64 z], .string s] W fun e w' => e = .returned (.bool (!p s)) ∧ Below W.heap.size W w') :
    Calls Tryz.prog 41 #[.agg #[.int .i64 z], .slice a l.length c] w fun e w' => e = .returned (.bool (l.all p)) ∧ Below w.heap.size w w' := by
  have hmf : ∀ (fn : Fn) (first cap : Array Value) (w : World), (Instr.makeFunc fn first cap).run Tryz.prog w = .ok (.func fn first cap) w := fun _ _ _ _ => rfl
  have J : Hid (Below w.heap.size w (w.alloc (.cells #[.int .i64 z] 39))) := (Below.refl _ w).alloc (Nat.le_refl _) _
  have h := contains115 (c := c) (fun s => !p s) hl (hs.of_below J.out) CN
  have e : l.all p = !(l.any fun s => !p s) := by rw [List.not_any_eq_all_not]; simp
  rw [e]
  clear hs CN e
  generalize (l.any fun s => !p s) = t at *
  go_enter Tryz.func41, Tryz.ntmps41
  go_wp2_with (go_at_call 70; refine h.mono ?_; rintro e w1 ⟨rfl, hB1⟩)
  go_ret
  exact ⟨rfl, J.out.trans (hB1.mono J.out.size)⟩
end Go.Proofs.YtfbceknafmkipaaGreat
