/- Claims whatever they are: what is wrong with them. -/
import Derived.Test.YtfbceknafmkipaaGreatCb
set_option linter.unusedSimpArgs false
set_option linter.unusedVariables false
set_option maxRecDepth 100000
namespace Go.Proofs.YtfbceknafmkipaaGreat
open Go.RowKit Go.Deep Go.PlainAid

def tooL (t : Cl) : Bool := decide (8 < t.1.length) || decide (8 < t.2.length)
def unev (t : Cl) : Bool := decide (t.1.length = 0) || decide (t.2.length ≠ t.1.length)
def stra (p : ByteArray → Bool) (t : Cl) : Bool := !t.1.all p || !t.2.all p
theorem tooLong38 {w : World} {a1 a2 : Option Addr} {t : Cl} {c1 c2 : Nat} : Calls Tryz.prog 62 #[.agg #[.slice a1 t.1.length c1, .slice a2 t.2.length c2]] w fun e w' => e = .returned (.bool (tooL t)) ∧ Below w.heap.size w w' := by
  unfold tooL
  generalize t.1.length = n1
  generalize t.2.length = n2
  have J : Hid (Below w.heap.size w (w.alloc (.cells #[.slice a1 n1 c1, .slice a2 n2 c2] 72))) := (Below.refl _ w).alloc (Nat.le_refl _) _
  by_cases h1 : 8 < n1
  · have k1 : (8 : Int) < (n1 : Int) := by omega
    have hr : Hid ((decide (8 < n1) || decide (8 < n2)) = true) := by show _ = _; simp [h1]
    clear h1
    go_enter Tryz.func62, Tryz.ntmps62
    go_wp2_with fail
    go_ret
    exact ⟨by rw [hr.out]; rfl, J.out⟩
  · have k1 : ¬ (8 : Int) < (n1 : Int) := by omega
    by_cases h2 : 8 < n2
    · have k2 : (8 : Int) < (n2 : Int) := by omega
      have hr : Hid ((decide (8 < n1) || decide (8 < n2)) = true) := by show _ = _; simp [h2]
      clear h1 h2
      go_enter Tryz.func62, Tryz.ntmps62
      go_wp2_with fail
      go_ret
      exact ⟨by rw [hr.out]; rfl, J.out⟩
    · have k2 : ¬ (8 : Int) < (n2 : Int) := by omega
      have hr : Hid ((decide (8 < n1) || decide (8 < n2)) = false) := by show _ = _; simp [h1, h2]
      clear h1 h2
      go_enter Tryz.func62, Tryz.ntmps62
      go_wp2_with fail
      go_ret
      exact ⟨by rw [hr.out]; rfl, J.out⟩
theorem uneven39 {w : World} {a1 a2 : Option Addr} {t : Cl} {c1 c2 : Nat} : Calls Tryz.prog 63 #[.agg #[.slice a1 t.1.length c1, .slice a2 t.2.length c2]] w fun e w' => e = .returned (.bool (unev t)) ∧ Below w.heap.size w w' := by
  unfold unev
  generalize t.1.length = n1
  generalize t.2.length = n2
  have J : Hid (Below w.heap.size w (w.alloc (.cells #[.slice a1 n1 c1, .slice a2 n2 c2] 72))) := (Below.refl _ w).alloc (Nat.le_refl _) _
  by_cases h1 : n1 = 0
  · have k1 : ((n1 : Int) == 0) = true := by simp [h1]
    have hr : Hid ((decide (n1 = 0) || decide (n2 ≠ n1)) = true) := by show _ = _; simp [h1]
    clear h1
    go_enter Tryz.func63, Tryz.ntmps63
    go_wp2_with fail
    go_ret
    exact ⟨by rw [hr.out]; rfl, J.out⟩
  · have k1 : ((n1 : Int) == 0) = false := beq_eq_false_iff_ne.2 (by omega)
    by_cases h2 : n2 = n1
    · have k2 : ((n2 : Int) != (n1 : Int)) = false := by simp [h2]
      have hr : Hid ((decide (n1 = 0) || decide (n2 ≠ n1)) = false) := by show _ = _; simp [h1, h2]
      clear h1 h2
      go_enter Tryz.func63, Tryz.ntmps63
      go_wp2_with fail
      go_ret
      exact ⟨by rw [hr.out]; rfl, J.out⟩
    · have k2 : ((n2 : Int) != (n1 : Int)) = true := bne_iff_ne.2 (by omega)
      have hr : Hid ((decide (n1 = 0) || decide (n2 ≠ n1)) = true) := by show _ = _; simp [h2]
      clear h1 h2
      go_enter Tryz.func63, Tryz.ntmps63
      go_wp2_with fail
      go_ret
      exact ⟨by rw [hr.out]; rfl, J.out⟩
theorem strange40_a {w : World} {a1 a2 : Option Addr} {n1 n2 c1 c2 : Nat} {z : Int}
    (C1 : ∀ W, Below w.heap.size w W → Calls Tryz.prog 89 #[.agg #[.int .i64 z], .slice a1 n1 c1] W fun e w' => e = .returned (.bool false) ∧ Below W.heap.size W w') :
    Calls Tryz.prog 64 #[.agg #[.int .i64 z], .agg #[.slice a1 n1 c1, .slice a2 n2 c2]] w fun e w' => e = .returned (.bool true) ∧ Below w.heap.size w w' := by
  have H1 : Hid _ := C1
  clear C1
  generalize hW : (w.alloc (.cells #[.int .i64 z] 39)).alloc (.cells #[.slice a1 n1 c1, .slice a2 n2 c2] 72) = U
  have B : Hid (Below w.heap.size w U) := by rw [← hW]; exact ((Below.refl _ w).alloc (Nat.le_refl _) _).alloc (by simp) _
  have I0 : Hid (IHolds U w.heap.size 39 [.int .i64 z]) := by rw [← hW]; exact (IHolds.new w 39 [.int .i64 z]).alloc _
  have I1 : Hid (IHolds U (w.heap.size + 1) 72 [.slice a1 n1 c1, .slice a2 n2 c2]) := by rw [← hW]; exact IHolds.new' _ 72 [_, _] (by simp)
  go_enter Tryz.func64, Tryz.ntmps64
  have q0 : U.cell? ⟨w.heap.size, 0, none⟩ = some (.int .i64 z) := I0.out.cell 0 (by simp)
  have q1 : U.cell? ⟨w.heap.size + 1, 0, none⟩ = some (.slice a1 n1 c1) := I1.out.cell 0 (by simp)
  go_wp2_with (go_at_call 89; refine (H1.out _ B.out).mono ?_; rintro e w1 ⟨rfl, hB1⟩)
  go_ret
  exact ⟨rfl, B.out.trans (hB1.mono B.out.size)⟩
theorem strange40_b {w : World} {a1 a2 : Option Addr} {n1 n2 c1 c2 : Nat} {z : Int} {t : Bool}
    (C1 : ∀ W, Below w.heap.size w W → Calls Tryz.prog 89 #[.agg #[.int .i64 z], .slice a1 n1 c1] W fun e w' => e = .returned (.bool true) ∧ Below W.heap.size W w')
    (C2 : ∀ W, Below w.heap.size w W → Calls Tryz.prog 89 #[.agg #[.int .i64 z], .slice a2 n2 c2] W fun e w' => e = .returned (.bool t) ∧ Below W.heap.size W w') :
    Calls Tryz.prog 64 #[.agg #[.int .i64 z], .agg #[.slice a1 n1 c1, .slice a2 n2 c2]] w fun e w' => e = .returned (.bool (!t)) ∧ Below w.heap.size w w' := by
  have H1 : Hid _ := C1
  have H2 : Hid _ := C2
  clear C1 C2
  generalize hW : (w.alloc (.cells #[.int .i64 z] 39)).alloc (.cells #[.slice a1 n1 c1, .slice a2 n2 c2] 72) = U
  have B : Hid (Below w.heap.size w U) := by rw [← hW]; exact ((Below.refl _ w).alloc (Nat.le_refl _) _).alloc (by simp) _
  have I0 : Hid (IHolds U w.heap.size 39 [.int .i64 z]) := by rw [← hW]; exact (IHolds.new w 39 [.int .i64 z]).alloc _
  have I1 : Hid (IHolds U (w.heap.size + 1) 72 [.slice a1 n1 c1, .slice a2 n2 c2]) := by rw [← hW]; exact IHolds.new' _ 72 [_, _] (by simp)
  go_enter Tryz.func64, Tryz.ntmps64
  have q0 : U.cell? ⟨w.heap.size, 0, none⟩ = some (.int .i64 z) := I0.out.cell 0 (by simp)
  have q1 : U.cell? ⟨w.heap.size + 1, 0, none⟩ = some (.slice a1 n1 c1) := I1.out.cell 0 (by simp)
  go_wp2_with (go_at_call 89; first
    | (have zz := B.out; clear zz; refine (H1.out _ B.out).mono ?_; rintro e w1 ⟨rfl, hB1⟩; have B1 : Hid (Below w.heap.size w w1) := B.out.trans (hB1.mono B.out.size); have r0 := cell_keep (I0.out.cell 0 (by simp)) hB1; have r1 := cell_keep (I1.out.cell 1 (by simp)) hB1; clear hB1 B)
    | (refine (H2.out _ B1.out).mono ?_; rintro e w2 ⟨rfl, hB2⟩; have B2 : Hid (Below w.heap.size w w2) := B1.out.trans (hB2.mono B1.out.size); clear hB2 B1))
  go_ret
  exact ⟨rfl, B2.out⟩
theorem strange40 {w : World} {a1 a2 : Option Addr} {t : Cl} {c1 c2 : Nat} {z : Int} {p : ByteArray → Bool} (h1 : t.1.length ≤ 9223372036854775807) (h2 : t.2.length ≤ 9223372036854775807) (s1 : SL w a1 t.1) (s2 : SL w a2 t.2)
    (CN : ∀ s W, Calls Tryz.prog 113 #[.agg #[.int .i64 z], .string s] W fun e w' => e = .returned (.bool (!p s)) ∧ Below W.heap.size W w') :
    Calls Tryz.prog 64 #[.agg #[.int .i64 z], .agg #[.slice a1 t.1.length c1, .slice a2 t.2.length c2]] w fun e w' => e = .returned (.bool (stra p t)) ∧ Below w.heap.size w w' := by
  have C1 : ∀ W, Below w.heap.size w W → Calls Tryz.prog 89 #[.agg #[.int .i64 z], .slice a1 t.1.length c1] W fun e w' => e = .returned (.bool (t.1.all p)) ∧ Below W.heap.size W w' := fun X hX => elems127 p h1 (s1.of_below hX) CN
  have C2 : ∀ W, Below w.heap.size w W → Calls Tryz.prog 89 #[.agg #[.int .i64 z], .slice a2 t.2.length c2] W fun e w' => e = .returned (.bool (t.2.all p)) ∧ Below W.heap.size W w' := fun X hX => elems127 p h2 (s2.of_below hX) CN
  unfold stra
  cases h : t.1.all p with
  | false => rw [h] at C1; exact strange40_a C1
  | true =>
    rw [h] at C1
    simp only [Bool.not_true, Bool.false_or]
    exact strange40_b C1 C2
set_option maxHeartbeats 2000000 in
theorem index59_38 {w : World} {a : Option Addr} {l : List Cl} {c : Nat} (p : Cl → Bool) (hl : l.length ≤ 9223372036854775807) (hs : CM w a l)
    (CN : ∀ i (h : i < l.length) a1 c1 a2 c2 W, Below w.heap.size w W → SL W a1 (l[i]).1 → SL W a2 (l[i]).2 → Calls Tryz.prog 62 #[.agg #[.slice a1 (l[i]).1.length c1, .slice a2 (l[i]).2.length c2]] W fun e w' => e = .returned (.bool (p l[i])) ∧ Below W.heap.size W w') :
    Calls Tryz.prog 88 #[.slice a l.length c, .func (.func 62) #[] #[]] w fun e w' => (∃ r : Int, e = .returned (.int .i64 r) ∧ (decide (0 ≤ r)) = l.any p) ∧ Below w.heap.size w w' := by
  have HS : Hid (CM w a l) := hs
  have HL : Hid (l.length ≤ 9223372036854775807) := hl
  have HC : Hid _ := CN
  clear hs CN
  go_enter Tryz.func88, Tryz.ntmps88
  go_wp2_with fail
  go_loopg [5, 8] l.length (fun gk v5 v8 wr => ∃ i : Nat, i + gk = l.length ∧ v8 = .int .i64 (i : Int) ∧ Below w.heap.size w wr ∧ (l.take i).any p = false)
  case atStart => exact ⟨0, by omega, rfl, Below.refl _ _, by simp⟩
  case round =>
    obtain ⟨i, hig, rfl, hB, hn⟩ := hrel
    have B : Hid (Below w.heap.size w wr) := hB
    have HN : Hid ((l.take i).any p = false) := hn
    clear hB hn
    by_cases hi : i < l.length
    · obtain ⟨b, o, a1, c1, a2, c2, rfl, h1, h2, h3, h4⟩ := HS.out.of_below B.out i hi
      have il : (i : Int) < (l.length : Int) := by omega
      have hcall := HC.out i hi a1 c1 a2 c2 wr B.out h3 h4
      have HT : Hid _ := any_take p hi
      have HO : Hid _ := any_of p hi
      clear h3 h4
      generalize l[i] = t at *
      generalize t.1.length = n1 at *
      generalize t.2.length = n2 at *
      cases hp : p t with
      | true =>
        rw [hp] at hcall
        go_wp2_with (go_at_call 62; refine hcall.mono ?_; rintro e w3 ⟨rfl, hB3⟩)
        go_ret
        exact ⟨⟨_, rfl, by rw [HO.out hp]; simp⟩, B.out.trans (hB3.mono B.out.size)⟩
      | false =>
        rw [hp] at hcall
        go_wp2_with (go_at_call 62; refine hcall.mono ?_; rintro e w3 ⟨rfl, hB3⟩)
        go_roundg (gk - 1)
        case measure => omega
        case rel => exact ⟨i + 1, by omega, by go_num, B.out.trans (hB3.mono B.out.size), by rw [HT.out, HN.out, hp]; rfl⟩
    · have il : ¬ (i : Int) < (l.length : Int) := by omega
      have e : i = l.length := by omega
      have hn := HN.out
      rw [e, List.take_length] at hn
      clear e
      go_wp2_with fail
      go_ret
      exact ⟨⟨_, rfl, by first | (rw [hn]; decide) | decide⟩, B.out⟩
set_option maxHeartbeats 2000000 in
theorem contains37_38 {w : World} {a : Option Addr} {l : List Cl} {c : Nat} (p : Cl → Bool) (hl : l.length ≤ 9223372036854775807) (hs : CM w a l)
    (CN : ∀ i (h : i < l.length) a1 c1 a2 c2 W, Below w.heap.size w W → SL W a1 (l[i]).1 → SL W a2 (l[i]).2 → Calls Tryz.prog 62 #[.agg #[.slice a1 (l[i]).1.length c1, .slice a2 (l[i]).2.length c2]] W fun e w' => e = .returned (.bool (p l[i])) ∧ Below W.heap.size W w') :
    Calls Tryz.prog 61 #[.slice a l.length c, .func (.func 62) #[] #[]] w fun e w' => e = .returned (.bool (l.any p)) ∧ Below w.heap.size w w' := by
  have h := index59_38 (c := c) p hl hs CN
  clear hs CN
  generalize l.any p = t at *
  go_enter Tryz.func61, Tryz.ntmps61
  go_wp2_with (go_at_call 88; refine h.mono ?_; rintro e w1 ⟨⟨r, rfl, hr⟩, hB1⟩)
  go_ret
  exact ⟨by rw [← hr]; rfl, hB1⟩
set_option maxHeartbeats 2000000 in
theorem index59_39 {w : World} {a : Option Addr} {l : List Cl} {c : Nat} (p : Cl → Bool) (hl : l.length ≤ 9223372036854775807) (hs : CM w a l)
    (CN : ∀ i (h : i < l.length) a1 c1 a2 c2 W, Below w.heap.size w W → SL W a1 (l[i]).1 → SL W a2 (l[i]).2 → Calls Tryz.prog 63 #[.agg #[.slice a1 (l[i]).1.length c1, .slice a2 (l[i]).2.length c2]] W fun e w' => e = .returned (.bool (p l[i])) ∧ Below W.heap.size W w') :
    Calls Tryz.prog 88 #[.slice a l.length c, .func (.func 63) #[] #[]] w fun e w' => (∃ r : Int, e = .returned (.int .i64 r) ∧ (decide (0 ≤ r)) = l.any p) ∧ Below w.heap.size w w' := by
  have HS : Hid (CM w a l) := hs
  have HL : Hid (l.length ≤ 9223372036854775807) := hl
  have HC : Hid _ := CN
  clear hs CN
  go_enter Tryz.func88, Tryz.ntmps88
  go_wp2_with fail
  go_loopg [5, 8] l.length (fun gk v5 v8 wr => ∃ i : Nat, i + gk = l.length ∧ v8 = .int .i64 (i : Int) ∧ Below w.heap.size w wr ∧ (l.take i).any p = false)
  case atStart => exact ⟨0, by omega, rfl, Below.refl _ _, by simp⟩
  case round =>
    obtain ⟨i, hig, rfl, hB, hn⟩ := hrel
    have B : Hid (Below w.heap.size w wr) := hB
    have HN : Hid ((l.take i).any p = false) := hn
    clear hB hn
    by_cases hi : i < l.length
    · obtain ⟨b, o, a1, c1, a2, c2, rfl, h1, h2, h3, h4⟩ := HS.out.of_below B.out i hi
      have il : (i : Int) < (l.length : Int) := by omega
      have hcall := HC.out i hi a1 c1 a2 c2 wr B.out h3 h4
      have HT : Hid _ := any_take p hi
      have HO : Hid _ := any_of p hi
      clear h3 h4
      generalize l[i] = t at *
      generalize t.1.length = n1 at *
      generalize t.2.length = n2 at *
      cases hp : p t with
      | true =>
        rw [hp] at hcall
        go_wp2_with (go_at_call 63; refine hcall.mono ?_; rintro e w3 ⟨rfl, hB3⟩)
        go_ret
        exact ⟨⟨_, rfl, by rw [HO.out hp]; simp⟩, B.out.trans (hB3.mono B.out.size)⟩
      | false =>
        rw [hp] at hcall
        go_wp2_with (go_at_call 63; refine hcall.mono ?_; rintro e w3 ⟨rfl, hB3⟩)
        go_roundg (gk - 1)
        case measure => omega
        case rel => exact ⟨i + 1, by omega, by go_num, B.out.trans (hB3.mono B.out.size), by rw [HT.out, HN.out, hp]; rfl⟩
    · have il : ¬ (i : Int) < (l.length : Int) := by omega
      have e : i = l.length := by omega
      have hn := HN.out
      rw [e, List.take_length] at hn
      clear e
      go_wp2_with fail
      go_ret
      exact ⟨⟨_, rfl, by first | (rw [hn]; decide) | decide⟩, B.out⟩
set_option maxHeartbeats 2000000 in
theorem contains37_39 {w : World} {a : Option Addr} {l : List Cl} {c : Nat} (p : Cl → Bool) (hl : l.length ≤ 9223372036854775807) (hs : CM w a l)
    (CN : ∀ i (h : i < l.length) a1 c1 a2 c2 W, Below w.heap.size w W → SL W a1 (l[i]).1 → SL W a2 (l[i]).2 → Calls Tryz.prog 63 #[.agg #[.slice a1 (l[i]).1.length c1, .slice a2 (l[i]).2.length c2]] W fun e w' => e = .returned (.bool (p l[i])) ∧ Below W.heap.size W w') :
    Calls Tryz.prog 61 #[.slice a l.length c, .func (.func 63) #[] #[]] w fun e w' => e = .returned (.bool (l.any p)) ∧ Below w.heap.size w w' := by
  have h := index59_39 (c := c) p hl hs CN
  clear hs CN
  generalize l.any p = t at *
  go_enter Tryz.func61, Tryz.ntmps61
  go_wp2_with (go_at_call 88; refine h.mono ?_; rintro e w1 ⟨⟨r, rfl, hr⟩, hB1⟩)
  go_ret
  exact ⟨by rw [← hr]; rfl, hB1⟩
set_option maxHeartbeats 2000000 in
theorem index59_40 {w : World} {a : Option Addr} {l : List Cl} {c : Nat} {z : Int} (p : Cl → Bool) (hl : l.length ≤ 9223372036854775807) (hs : CM w a l)
    (CN : ∀ i (h : i < l.length) a1 c1 a2 c2 W, Below w.heap.size w W → SL W a1 (l[i]).1 → SL W a2 (l[i]).2 → Calls Tryz.prog 64 #[.agg #[.int .i64 z], .agg #[.slice a1 (l[i]).1.length c1, .slice a2 (l[i]).2.length c2]] W fun e w' => e = .returned (.bool (p l[i])) ∧ Below W.heap.size W w') :
    Calls Tryz.prog 88 #[.slice a l.length c, .func (.func 64) #[.agg #[.int .i64 z]] #[]] w fun e w' => (∃ r : Int, e = .returned (.int .i64 r) ∧ (decide (0 ≤ r)) = l.any p) ∧ Below w.heap.size w w' := by
  have HS : Hid (CM w a l) := hs
  have HL : Hid (l.length ≤ 9223372036854775807) := hl
  have HC : Hid _ := CN
  clear hs CN
  go_enter Tryz.func88, Tryz.ntmps88
  go_wp2_with fail
  go_loopg [5, 8] l.length (fun gk v5 v8 wr => ∃ i : Nat, i + gk = l.length ∧ v8 = .int .i64 (i : Int) ∧ Below w.heap.size w wr ∧ (l.take i).any p = false)
  case atStart => exact ⟨0, by omega, rfl, Below.refl _ _, by simp⟩
  case round =>
    obtain ⟨i, hig, rfl, hB, hn⟩ := hrel
    have B : Hid (Below w.heap.size w wr) := hB
    have HN : Hid ((l.take i).any p = false) := hn
    clear hB hn
    by_cases hi : i < l.length
    · obtain ⟨b, o, a1, c1, a2, c2, rfl, h1, h2, h3, h4⟩ := HS.out.of_below B.out i hi
      have il : (i : Int) < (l.length : Int) := by omega
      have hcall := HC.out i hi a1 c1 a2 c2 wr B.out h3 h4
      have HT : Hid _ := any_take p hi
      have HO : Hid _ := any_of p hi
      clear h3 h4
      generalize l[i] = t at *
      generalize t.1.length = n1 at *
      generalize t.2.length = n2 at *
      cases hp : p t with
      | true =>
        rw [hp] at hcall
        go_wp2_with (go_at_call 64; refine hcall.mono ?_; rintro e w3 ⟨rfl, hB3⟩)
        go_ret
        exact ⟨⟨_, rfl, by rw [HO.out hp]; simp⟩, B.out.trans (hB3.mono B.out.size)⟩
      | false =>
        rw [hp] at hcall
        go_wp2_with (go_at_call 64; refine hcall.mono ?_; rintro e w3 ⟨rfl, hB3⟩)
        go_roundg (gk - 1)
        case measure => omega
        case rel => exact ⟨i + 1, by omega, by go_num, B.out.trans (hB3.mono B.out.size), by rw [HT.out, HN.out, hp]; rfl⟩
    · have il : ¬ (i : Int) < (l.length : Int) := by omega
      have e : i = l.length := by omega
      have hn := HN.out
      rw [e, List.take_length] at hn
      clear e
      go_wp2_with fail
      go_ret
      exact ⟨⟨_, rfl, by first | (rw [hn]; decide) | decide⟩, B.out⟩
set_option maxHeartbeats 2000000 in
theorem contains37_40 {w : World} {a : Option Addr} {l : List Cl} {c : Nat} {z : Int} (p : Cl → Bool) (hl : l.length ≤ 9223372036854775807) (hs : CM w a l)
    (CN : ∀ i (h : i < l.length) a1 c1 a2 c2 W, Below w.heap.size w W → SL W a1 (l[i]).1 → SL W a2 (l[i]).2 → Calls Tryz.prog 64 #[.agg #[.int .i64 z], .agg #[.slice a1 (l[i]).1.length c1, .slice a2 (l[i]).2.length c2]] W fun e w' => e = .returned (.bool (p l[i])) ∧ Below W.heap.size W w') :
    Calls Tryz.prog 61 #[.slice a l.length c, .func (.func 64) #[.agg #[.int .i64 z]] #[]] w fun e w' => e = .returned (.bool (l.any p)) ∧ Below w.heap.size w w' := by
  have h := index59_40 (c := c) p hl hs CN
  clear hs CN
  generalize l.any p = t at *
  go_enter Tryz.func61, Tryz.ntmps61
  go_wp2_with (go_at_call 88; refine h.mono ?_; rintro e w1 ⟨⟨r, rfl, hr⟩, hB1⟩)
  go_ret
  exact ⟨by rw [← hr]; rfl, hB1⟩
end Go.Proofs.YtfbceknafmkipaaGreat
