/- Claims in memory, and what is asked of them where nothing is wrong. -/
import Derived.Test.YtfbceknafmkipaaGreatSl7
import Derived.Test.YtfbceknafmkipaaGreatSl8
set_option linter.unusedSimpArgs false
set_option linter.unusedVariables false
set_option maxRecDepth 100000
namespace Go.Proofs.YtfbceknafmkipaaGreat
open Go.RowKit Go.Deep Go.PlainAid

/-- A claim: its bases and its images. -/
abbrev Cl := List ByteArray × List ByteArray
/-- A list of claims. -/
def CM (w : World) (a : Option Addr) (l : List Cl) : Prop := ∀ i (h : i < l.length), ∃ b o a1 c1 a2 c2, a = some ⟨b, o, none⟩ ∧ w.cell? ⟨b, o + i * 2, none⟩ = some (.slice a1 (l[i]).1.length c1) ∧ w.cell? ⟨b, o + i * 2 + 1, none⟩ = some (.slice a2 (l[i]).2.length c2) ∧ SL w a1 (l[i]).1 ∧ SL w a2 (l[i]).2
theorem CM.of_below {w w' : World} {a : Option Addr} {l : List Cl} (h : CM w a l) (hb : Below w.heap.size w w') : CM w' a l := by
  intro i hi
  obtain ⟨b, o, a1, c1, a2, c2, e, h1, h2, h3, h4⟩ := h i hi
  exact ⟨b, o, a1, c1, a2, c2, e, cell_keep h1 hb, cell_keep h2 hb, h3.of_below hb, h4.of_below hb⟩
theorem noElem133 {w : World} {z : Int} {s : ByteArray} {t : Bool} (h : ∀ W, Calls Tryz.prog 127 #[.int .i64 z, .string s] W fun e w' => e = .returned (.bool t) ∧ Below W.heap.size W w') :
    Calls Tryz.prog 113 #[.agg #[.int .i64 z], .string s] w fun e w' => e = .returned (.bool (!t)) ∧ Below w.heap.size w w' := by
  have J : Hid (Below w.heap.size w (w.alloc (.cells #[.int .i64 z] 39))) := (Below.refl _ w).alloc (Nat.le_refl _) _
  go_enter Tryz.func113, Tryz.ntmps113
  go_wp2_with (go_at_call 127; refine (h _).mono ?_; rintro e w1 ⟨rfl, hB1⟩)
  go_ret
  exact ⟨rfl, J.out.trans (hB1.mono J.out.size)⟩
set_option maxHeartbeats 1000000 in
theorem index128e {w : World} {a : Option Addr} {l : List ByteArray} {c : Nat} {z : Int} (p : ByteArray → Bool) (hl : l.length ≤ 9223372036854775807) (hs : SL w a l)
    (CN : ∀ s W, Calls Tryz.prog 113 #[.agg #[.int .i64 z], .string s] W fun e w' => e = .returned (.bool (p s)) ∧ Below W.heap.size W w') :
    Calls Tryz.prog 91 #[.slice a l.length c, .func (.func 113) #[.agg #[.int .i64 z]] #[]] w fun e w' => (∃ r : Int, e = .returned (.int .i64 r) ∧ (decide (0 ≤ r)) = l.any p) ∧ Below w.heap.size w w' := by
  have HS : Hid (SL w a l) := hs
  have HL : Hid (l.length ≤ 9223372036854775807) := hl
  clear hs
  go_enter Tryz.func91, Tryz.ntmps91
  go_wp2_with fail
  go_loopg [5, 8] l.length (fun gk v5 v8 wr => ∃ i : Nat, i + gk = l.length ∧ v8 = .int .i64 (i : Int) ∧ Below w.heap.size w wr ∧ (l.take i).any p = false)
  case atStart => exact ⟨0, by omega, rfl, Below.refl _ _, by simp⟩
  case round =>
    obtain ⟨i, hig, rfl, hB, hn⟩ := hrel
    have B : Hid (Below w.heap.size w wr) := hB
    have HN : Hid ((l.take i).any p = false) := hn
    clear hB hn
    by_cases hi : i < l.length
    · obtain ⟨b, o, rfl, hc⟩ := HS.out.of_below B.out i hi
      have il : (i : Int) < (l.length : Int) := by omega
      have hcall := CN l[i]
      have HT : Hid _ := any_take p hi
      have HO : Hid _ := any_of p hi
      generalize l[i] = s at *
      cases hp : p s with
      | true =>
        rw [hp] at hcall
        go_wp2_with (go_at_call 113; refine (hcall _).mono ?_; rintro e w3 ⟨rfl, hB3⟩)
        go_ret
        exact ⟨⟨_, rfl, by rw [HO.out hp]; simp⟩, B.out.trans (hB3.mono B.out.size)⟩
      | false =>
        rw [hp] at hcall
        go_wp2_with (go_at_call 113; refine (hcall _).mono ?_; rintro e w3 ⟨rfl, hB3⟩)
        go_roundg (gk - 1)
        case measure => omega
        case rel => exact ⟨i + 1, by omega, by go_num, B.out.trans (hB3.mono B.out.size), by rw [HT.out, HN.out, hp]; rfl⟩
    · have il : ¬ (i : Int) < (l.length : Int) := by omega
      have e : i = l.length := by omega
      have hn := HN.out
      rw [e, List.take_length] at hn
      clear e
      go_wp2_with fail
      go_ret
      exact ⟨⟨_, rfl, by first | (rw [hn]; decide) | decide⟩, B.out⟩
theorem contains115e {w : World} {a : Option Addr} {l : List ByteArray} {c : Nat} {z : Int} (p : ByteArray → Bool) (hl : l.length ≤ 9223372036854775807) (hs : SL w a l)
    (CN : ∀ s W, Calls Tryz.prog 113 #[.agg #[.int .i64 z], .string s] W fun e w' => e = .returned (.bool (p s)) ∧ Below W.heap.size W w') :
    Calls Tryz.prog 70 #[.slice a l.length c, .func (.func 113) #[.agg #[.int .i64 z]] #[]] w fun e w' => e = .returned (.bool (l.any p)) ∧ Below w.heap.size w w' := by
  have h := index128e (c := c) p hl hs CN
  clear hs CN
  generalize l.any p = t at *
  go_enter Tryz.func70, Tryz.ntmps70
  go_wp2_with (go_at_call 91; refine h.mono ?_; rintro e w1 ⟨⟨r, rfl, hr⟩, hB1⟩)
  go_ret
  exact ⟨by rw [← hr]; rfl, hB1⟩
set_option maxHeartbeats 1000000 in
theorem elems127 {w : World} {a : Option Addr} {l : List ByteArray} {c : Nat} {z : Int} (p : ByteArray → Bool) (hl : l.length ≤ 9223372036854775807) (hs : SL w a l)
    (CN : ∀ s W, Calls Tryz.prog 113 #[.agg #[.int .i64 z], .string s] W fun e w' => e = .returned (.bool (!p s)) ∧ Below W.heap.size W w') :
    Calls Tryz.prog 89 #[.agg #[.int .i64 z], .slice a l.length c] w fun e w' => e = .returned (.bool (l.all p)) ∧ Below w.heap.size w w' := by
  have hmf : ∀ (fn : Fn) (first cap : Array Value) (w : World), (Instr.makeFunc fn first cap).run Tryz.prog w = .ok (.func fn first cap) w := fun _ _ _ _ => rfl
  have J : Hid (Below w.heap.size w (w.alloc (.cells #[.int .i64 z] 39))) := (Below.refl _ w).alloc (Nat.le_refl _) _
  have h := contains115e (c := c) (fun s => !p s) hl (hs.of_below J.out) CN
  have e : l.all p = !(l.any fun s => !p s) := by rw [List.not_any_eq_all_not]; simp
  rw [e]
  clear hs CN e
  generalize (l.any fun s => !p s) = t at *
  go_enter Tryz.func89, Tryz.ntmps89
  go_wp2_with (go_at_call 70; refine h.mono ?_; rintro e w1 ⟨rfl, hB1⟩)
  go_ret
  exact ⟨rfl, J.out.trans (hB1.mono J.out.size)⟩
theorem tooLong112 {w : World} {a1 a2 : Option Addr} {n1 n2 c1 c2 : Nat} (h1 : n1 ≤ 8) (h2 : n2 ≤ 8) : Calls Tryz.prog 62 #[.agg #[.slice a1 n1 c1, .slice a2 n2 c2]] w fun e w' => e = .returned (.bool false) ∧ Below w.heap.size w w' := by
  have J : Hid (Below w.heap.size w (w.alloc (.cells #[.slice a1 n1 c1, .slice a2 n2 c2] 72))) := (Below.refl _ w).alloc (Nat.le_refl _) _
  have k1 : ¬ (8 : Int) < (n1 : Int) := by omega
  have k2 : ¬ (8 : Int) < (n2 : Int) := by omega
  go_enter Tryz.func62, Tryz.ntmps62
  go_wp2_with fail
  go_ret
  exact ⟨rfl, J.out⟩
theorem uneven113 {w : World} {a1 a2 : Option Addr} {n c1 c2 : Nat} (h1 : 0 < n) : Calls Tryz.prog 63 #[.agg #[.slice a1 n c1, .slice a2 n c2]] w fun e w' => e = .returned (.bool false) ∧ Below w.heap.size w w' := by
  have J : Hid (Below w.heap.size w (w.alloc (.cells #[.slice a1 n c1, .slice a2 n c2] 72))) := (Below.refl _ w).alloc (Nat.le_refl _) _
  have k1 : ((n : Int) == 0) = false := by simp; omega
  have k2 : ((n : Int) != (n : Int)) = false := by simp
  go_enter Tryz.func63, Tryz.ntmps63
  go_wp2_with fail
  go_ret
  exact ⟨rfl, J.out⟩
theorem strange114 {w : World} {a1 a2 : Option Addr} {n1 n2 c1 c2 : Nat} {z : Int}
    (C1 : ∀ W, Below w.heap.size w W → Calls Tryz.prog 89 #[.agg #[.int .i64 z], .slice a1 n1 c1] W fun e w' => e = .returned (.bool true) ∧ Below W.heap.size W w')
    (C2 : ∀ W, Below w.heap.size w W → Calls Tryz.prog 89 #[.agg #[.int .i64 z], .slice a2 n2 c2] W fun e w' => e = .returned (.bool true) ∧ Below W.heap.size W w') :
    Calls Tryz.prog 64 #[.agg #[.int .i64 z], .agg #[.slice a1 n1 c1, .slice a2 n2 c2]] w fun e w' => e = .returned (.bool false) ∧ Below w.heap.size w w' := by
  have H1 : Hid _ := C1
  have H2 : Hid _ := C2
  clear C1 C2
  generalize hW : (w.alloc (.cells #[.int .i64 z] 39)).alloc (.cells #[.slice a1 n1 c1, .slice a2 n2 c2] 72) = U
  have B : Hid (Below w.heap.size w U) := by rw [← hW]; exact ((Below.refl _ w).alloc (Nat.le_refl _) _).alloc (by simp) _
  have I0 : Hid (IHolds U w.heap.size 39 [.int .i64 z]) := by rw [← hW]; exact (IHolds.new w 39 [.int .i64 z]).alloc _
  have I1 : Hid (IHolds U (w.heap.size + 1) 72 [.slice a1 n1 c1, .slice a2 n2 c2]) := by rw [← hW]; exact IHolds.new' _ 72 [_, _] (by simp)
  go_enter Tryz.func64, Tryz.ntmps64
  have q0 : U.cell? ⟨w.heap.size, 0, none⟩ = some (.int .i64 z) := I0.out.cell 0 (by simp)
  have q1 : U.cell? ⟨w.heap.size + 1, 0, none⟩ = some (.slice a1 n1 c1) := I1.out.cell 0 (by simp)
  go_wp2_with (go_at_call 89; first
    | (refine (H1.out _ B.out).mono ?_; rintro e w1 ⟨rfl, hB1⟩; have B1 : Hid (Below w.heap.size w w1) := B.out.trans (hB1.mono B.out.size); have r0 := cell_keep (I0.out.cell 0 (by simp)) hB1; have r1 := cell_keep (I1.out.cell 1 (by simp)) hB1; clear hB1 B)
    | (refine (H2.out _ B1.out).mono ?_; rintro e w2 ⟨rfl, hB2⟩; have B2 : Hid (Below w.heap.size w w2) := B1.out.trans (hB2.mono B1.out.size); clear hB2 B1))
  go_ret
  exact ⟨rfl, B2.out⟩
set_option maxHeartbeats 1000000 in
theorem index126_112 {w : World} {a : Option Addr} {l : List Cl} {c : Nat} (hl : l.length ≤ 9223372036854775807) (hs : CM w a l)
    (CN : ∀ i (h : i < l.length) a1 c1 a2 c2 W, Below w.heap.size w W → SL W a1 (l[i]).1 → SL W a2 (l[i]).2 → Calls Tryz.prog 62 #[.agg #[.slice a1 (l[i]).1.length c1, .slice a2 (l[i]).2.length c2]] W fun e w' => e = .returned (.bool false) ∧ Below W.heap.size W w') :
    Calls Tryz.prog 88 #[.slice a l.length c, .func (.func 62) #[] #[]] w fun e w' => e = .returned (.int .i64 (-1)) ∧ Below w.heap.size w w' := by
  have HS : Hid (CM w a l) := hs
  have HL : Hid (l.length ≤ 9223372036854775807) := hl
  have HC : Hid _ := CN
  clear hs CN
  go_enter Tryz.func88, Tryz.ntmps88
  go_wp2_with fail
  go_loopg [5, 8] l.length (fun gk v5 v8 wr => ∃ i : Nat, i + gk = l.length ∧ v8 = .int .i64 (i : Int) ∧ Below w.heap.size w wr)
  case atStart => exact ⟨0, by omega, rfl, Below.refl _ _⟩
  case round =>
    obtain ⟨i, hig, rfl, hB⟩ := hrel
    have B : Hid (Below w.heap.size w wr) := hB
    clear hB
    by_cases hi : i < l.length
    · obtain ⟨b, o, a1, c1, a2, c2, rfl, h1, h2, h3, h4⟩ := HS.out.of_below B.out i hi
      have il : (i : Int) < (l.length : Int) := by omega
      have hcall := HC.out i hi a1 c1 a2 c2 wr B.out h3 h4
      clear h3 h4
      generalize (l[i]).1.length = n1 at *
      generalize (l[i]).2.length = n2 at *
      go_wp2_with (go_at_call 62; refine hcall.mono ?_; rintro e w3 ⟨rfl, hB3⟩)
      go_roundg (gk - 1)
      case measure => omega
      case rel => exact ⟨i + 1, by omega, by go_num, B.out.trans (hB3.mono B.out.size)⟩
    · have il : ¬ (i : Int) < (l.length : Int) := by omega
      go_wp2_with fail
      go_ret
      exact ⟨rfl, B.out⟩
theorem contains111_112 {w : World} {a : Option Addr} {l : List Cl} {c : Nat} (hl : l.length ≤ 9223372036854775807) (hs : CM w a l)
    (CN : ∀ i (h : i < l.length) a1 c1 a2 c2 W, Below w.heap.size w W → SL W a1 (l[i]).1 → SL W a2 (l[i]).2 → Calls Tryz.prog 62 #[.agg #[.slice a1 (l[i]).1.length c1, .slice a2 (l[i]).2.length c2]] W fun e w' => e = .returned (.bool false) ∧ Below W.heap.size W w') :
    Calls Tryz.prog 61 #[.slice a l.length c, .func (.func 62) #[] #[]] w fun e w' => e = .returned (.bool false) ∧ Below w.heap.size w w' := by
  have h := index126_112 (c := c) hl hs CN
  clear hs CN
  generalize l.length = n at *
  go_enter Tryz.func61, Tryz.ntmps61
  go_wp2_with (go_at_call 88; refine h.mono ?_; rintro e w1 ⟨rfl, hB1⟩)
  go_ret
  exact ⟨rfl, hB1⟩
set_option maxHeartbeats 1000000 in
theorem index126_113 {w : World} {a : Option Addr} {l : List Cl} {c : Nat} (hl : l.length ≤ 9223372036854775807) (hs : CM w a l)
    (CN : ∀ i (h : i < l.length) a1 c1 a2 c2 W, Below w.heap.size w W → SL W a1 (l[i]).1 → SL W a2 (l[i]).2 → Calls Tryz.prog 63 #[.agg #[.slice a1 (l[i]).1.length c1, .slice a2 (l[i]).2.length c2]] W fun e w' => e = .returned (.bool false) ∧ Below W.heap.size W w') :
    Calls Tryz.prog 88 #[.slice a l.length c, .func (.func 63) #[] #[]] w fun e w' => e = .returned (.int .i64 (-1)) ∧ Below w.heap.size w w' := by
  have HS : Hid (CM w a l) := hs
  have HL : Hid (l.length ≤ 9223372036854775807) := hl
  have HC : Hid _ := CN
  clear hs CN
  go_enter Tryz.func88, Tryz.ntmps88
  go_wp2_with fail
  go_loopg [5, 8] l.length (fun gk v5 v8 wr => ∃ i : Nat, i + gk = l.length ∧ v8 = .int .i64 (i : Int) ∧ Below w.heap.size w wr)
  case atStart => exact ⟨0, by omega, rfl, Below.refl _ _⟩
  case round =>
    obtain ⟨i, hig, rfl, hB⟩ := hrel
    have B : Hid (Below w.heap.size w wr) := hB
    clear hB
    by_cases hi : i < l.length
    · obtain ⟨b, o, a1, c1, a2, c2, rfl, h1, h2, h3, h4⟩ := HS.out.of_below B.out i hi
      have il : (i : Int) < (l.length : Int) := by omega
      have hcall := HC.out i hi a1 c1 a2 c2 wr B.out h3 h4
      clear h3 h4
      generalize (l[i]).1.length = n1 at *
      generalize (l[i]).2.length = n2 at *
      go_wp2_with (go_at_call 63; refine hcall.mono ?_; rintro e w3 ⟨rfl, hB3⟩)
      go_roundg (gk - 1)
      case measure => omega
      case rel => exact ⟨i + 1, by omega, by go_num, B.out.trans (hB3.mono B.out.size)⟩
    · have il : ¬ (i : Int) < (l.length : Int) := by omega
      go_wp2_with fail
      go_ret
      exact ⟨rfl, B.out⟩
theorem contains111_113 {w : World} {a : Option Addr} {l : List Cl} {c : Nat} (hl : l.length ≤ 9223372036854775807) (hs : CM w a l)
    (CN : ∀ i (h : i < l.length) a1 c1 a2 c2 W, Below w.heap.size w W → SL W a1 (l[i]).1 → SL W a2 (l[i]).2 → Calls Tryz.prog 63 #[.agg #[.slice a1 (l[i]).1.length c1, .slice a2 (l[i]).2.length c2]] W fun e w' => e = .returned (.bool false) ∧ Below W.heap.size W w') :
    Calls Tryz.prog 61 #[.slice a l.length c, .func (.func 63) #[] #[]] w fun e w' => e = .returned (.bool false) ∧ Below w.heap.size w w' := by
  have h := index126_113 (c := c) hl hs CN
  clear hs CN
  generalize l.length = n at *
  go_enter Tryz.func61, Tryz.ntmps61
  go_wp2_with (go_at_call 88; refine h.mono ?_; rintro e w1 ⟨rfl, hB1⟩)
  go_ret
  exact ⟨rfl, hB1⟩
set_option maxHeartbeats 1000000 in
theorem index126_114 {w : World} {a : Option Addr} {l : List Cl} {c : Nat} {z : Int} (hl : l.length ≤ 9223372036854775807) (hs : CM w a l)
    (CN : ∀ i (h : i < l.length) a1 c1 a2 c2 W, Below w.heap.size w W → SL W a1 (l[i]).1 → SL W a2 (l[i]).2 → Calls Tryz.prog 64 #[.agg #[.int .i64 z], .agg #[.slice a1 (l[i]).1.length c1, .slice a2 (l[i]).2.length c2]] W fun e w' => e = .returned (.bool false) ∧ Below W.heap.size W w') :
    Calls Tryz.prog 88 #[.slice a l.length c, .func (.func 64) #[.agg #[.int .i64 z]] #[]] w fun e w' => e = .returned (.int .i64 (-1)) ∧ Below w.heap.size w w' := by
  have HS : Hid (CM w a l) := hs
  have HL : Hid (l.length ≤ 9223372036854775807) := hl
  have HC : Hid _ := CN
  clear hs CN
  go_enter Tryz.func88, Tryz.ntmps88
  go_wp2_with fail
  go_loopg [5, 8] l.length (fun gk v5 v8 wr => ∃ i : Nat, i + gk = l.length ∧ v8 = .int .i64 (i : Int) ∧ Below w.heap.size w wr)
  case atStart => exact ⟨0, by omega, rfl, Below.refl _ _⟩
  case round =>
    obtain ⟨i, hig, rfl, hB⟩ := hrel
    have B : Hid (Below w.heap.size w wr) := hB
    clear hB
    by_cases hi : i < l.length
    · obtain ⟨b, o, a1, c1, a2, c2, rfl, h1, h2, h3, h4⟩ := HS.out.of_below B.out i hi
      have il : (i : Int) < (l.length : Int) := by omega
      have hcall := HC.out i hi a1 c1 a2 c2 wr B.out h3 h4
      clear h3 h4
      generalize (l[i]).1.length = n1 at *
      generalize (l[i]).2.length = n2 at *
      go_wp2_with (go_at_call 64; refine hcall.mono ?_; rintro e w3 ⟨rfl, hB3⟩)
      go_roundg (gk - 1)
      case measure => omega
      case rel => exact ⟨i + 1, by omega, by go_num, B.out.trans (hB3.mono B.out.size)⟩
    · have il : ¬ (i : Int) < (l.length : Int) := by omega
      go_wp2_with fail
      go_ret
      exact ⟨rfl, B.out⟩
theorem contains111_114 {w : World} {a : Option Addr} {l : List Cl} {c : Nat} {z : Int} (hl : l.length ≤ 9223372036854775807) (hs : CM w a l)
    (CN : ∀ i (h : i < l.length) a1 c1 a2 c2 W, Below w.heap.size w W → SL W a1 (l[i]).1 → SL W a2 (l[i]).2 → Calls Tryz.prog 64 #[.agg #[.int .i64 z], .agg #[.slice a1 (l[i]).1.length c1, .slice a2 (l[i]).2.length c2]] W fun e w' => e = .returned (.bool false) ∧ Below W.heap.size W w') :
    Calls Tryz.prog 61 #[.slice a l.length c, .func (.func 64) #[.agg #[.int .i64 z]] #[]] w fun e w' => e = .returned (.bool false) ∧ Below w.heap.size w w' := by
  have h := index126_114 (c := c) hl hs CN
  clear hs CN
  generalize l.length = n at *
  go_enter Tryz.func61, Tryz.ntmps61
  go_wp2_with (go_at_call 88; refine h.mono ?_; rintro e w1 ⟨rfl, hB1⟩)
  go_ret
  exact ⟨rfl, hB1⟩
end Go.Proofs.YtfbceknafmkipaaGreat
