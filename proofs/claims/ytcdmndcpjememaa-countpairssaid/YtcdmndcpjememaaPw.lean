/- What is wrong with squares; what lists have in common. -/
import Derived.Test.YtcdmndcpjememaaMx
import Derived.Deep.RegionHeld3
set_option linter.unusedSimpArgs false
set_option linter.unusedVariables false
set_option maxRecDepth 100000
namespace Go.Proofs.Ytcdmndcpjememaa
open Go.RowKit Go.Deep Go.PlainAid

/-- Lists of numbers. -/
def LL (w : World) (a : Option Addr) (L : List (List Int)) : Prop := ∀ i (h : i < L.length), ∃ b o a' c, a = some ⟨b, o, none⟩ ∧ w.cell? ⟨b, o + i, none⟩ = some (.slice a' (L[i]'h).length c) ∧ IL w a' (L[i]'h)
theorem LL.of_below {w w' : World} {a : Option Addr} {L : List (List Int)} (h : LL w a L) (hb : Below w.heap.size w w') : LL w' a L := fun i hi => by
  obtain ⟨b, o, a', c, e, hc, hr⟩ := h i hi
  exact ⟨b, o, a', c, e, cell_keep hc hb, hr.of_below hb⟩
set_option maxHeartbeats 1000000 in
theorem sameInts11 {w : World} {a b : Option Addr} {n c d : Nat} {f : Nat → Int} (hn : n ≤ 4096) (h1 : IR w a n f) (h2 : IR w b n f) :
    Calls Try.prog 11 #[.slice a n c, .slice b n d] w fun e w' => e = .returned (.bool true) ∧ Below w.heap.size w w' := by
  have H1 : Hid (IR w a n f) := h1
  have H2 : Hid (IR w b n f) := h2
  clear h1 h2
  go_enter Try.func11, Try.ntmps11
  go_wp2_with fail
  go_loopg [5, 13] n (fun gk v5 v13 wr => ∃ i : Nat, i + gk = n ∧ v13 = .int .i64 (i : Int) ∧ Below w.heap.size w wr)
  case atStart => exact ⟨0, by omega, rfl, Below.refl _ _⟩
  case round =>
    obtain ⟨i, hig, rfl, hB⟩ := hrel
    have B : Hid (Below w.heap.size w wr) := hB
    clear hB
    by_cases hi : i < n
    · have il : (i : Int) < (n : Int) := by omega
      obtain ⟨b1, o1, rfl, q1⟩ := H1.out.of_below B.out i hi
      obtain ⟨b2, o2, rfl, q2⟩ := H2.out.of_below B.out i hi
      generalize f i = x at *
      go_wp2_with fail
      go_quiet (fail)
      have BQ : Hid (Below w.heap.size w (World.drewN wr nq)) := B.out.trans ⟨rfl, rfl, rfl, Nat.le_refl _, fun _ _ => rfl⟩
      clear q1 q2
      generalize World.drewN wr nq = wq at *
      go_wp2_with fail
      go_roundg (gk - 1)
      case measure => omega
      case rel => exact ⟨i + 1, by omega, by go_num, BQ.out⟩
    · have il : ¬ (i : Int) < (n : Int) := by omega
      go_wp2_with fail
      go_ret
      exact ⟨rfl, B.out⟩
set_option maxHeartbeats 1000000 in
theorem sameLists6 {w : World} {a b : Option Addr} {n c d : Nat} {M : Mt} (hn : n ≤ 4096) (h1 : SQ w a n M) (h2 : SQ w b n M) :
    Calls Try.prog 6 #[.slice a n c, .slice b n d] w fun e w' => e = .returned (.bool true) ∧ Below w.heap.size w w' := by
  have H1 : Hid (SQ w a n M) := h1
  have H2 : Hid (SQ w b n M) := h2
  have HC : Hid (∀ i W x y p q, IR W x n (M i) → IR W y n (M i) → Calls Try.prog 11 #[.slice x n p, .slice y n q] W fun e w' => e = .returned (.bool true) ∧ Below W.heap.size W w') := fun i W x y p q h1 h2 => sameInts11 hn h1 h2
  clear h1 h2
  go_enter Try.func6, Try.ntmps6
  go_wp2_with fail
  go_loopg [5, 13] n (fun gk v5 v13 wr => ∃ i : Nat, i + gk = n ∧ v13 = .int .i64 (i : Int) ∧ Below w.heap.size w wr)
  case atStart => exact ⟨0, by omega, rfl, Below.refl _ _⟩
  case round =>
    obtain ⟨i, hig, rfl, hB⟩ := hrel
    have B : Hid (Below w.heap.size w wr) := hB
    clear hB
    by_cases hi : i < n
    · have il : (i : Int) < (n : Int) := by omega
      obtain ⟨b1, o1, x1, y1, rfl, q1, s1⟩ := H1.out.of_below B.out i hi
      obtain ⟨b2, o2, x2, y2, rfl, q2, s2⟩ := H2.out.of_below B.out i hi
      have D0 : Hid (Below wr.heap.size wr wr.drew) := (Below.refl _ wr).drew
      have hc : Hid (Calls Try.prog 11 #[.slice x1 n y1, .slice x2 n y2] wr.drew fun e w' => e = .returned (.bool true) ∧ Below wr.drew.heap.size wr.drew w') := HC.out i _ _ _ _ _ (s1.of_below D0.out) (s2.of_below D0.out)
      have k1 : Hid (wr.cell? ⟨b1, o1 + i, none⟩ = some (.slice x1 n y1)) := q1
      have k2 : Hid (wr.cell? ⟨b2, o2 + i, none⟩ = some (.slice x2 n y2)) := q2
      have KS : Hid (∀ V, Below wr.heap.size wr V → V.cell? ⟨b1, o1 + i, none⟩ = some (.slice x1 n y1) ∧ V.cell? ⟨b2, o2 + i, none⟩ = some (.slice x2 n y2)) := fun V hV => ⟨cell_keep q1 hV, cell_keep q2 hV⟩
      clear s1 s2 q1 q2 HC k1 k2
      go_wp2_with fail
      go_region_held3 (fun V => V.cell? ⟨b1, o1 + i, none⟩ = some (.slice x1 n y1) ∧ V.cell? ⟨b2, o2 + i, none⟩ = some (.slice x2 n y2))
        (first | exact KS.out _ D0.out | exact KS.out _ D1.out | assumption | fail)
        (first
          | (go_at_call 11; refine (hc.out).mono ?_; rintro e V9 ⟨rfl, hB9⟩; have D1 : Hid (Below wr.heap.size wr V9) := D0.out.trans (hB9.mono D0.out.size); clear hB9 hc)
          | fail)
      have B9 : Hid (Below w.heap.size w V9) := B.out.trans (D1.out.mono B.out.size)
      go_wp2_with fail
      go_roundg (gk - 1)
      case measure => omega
      case rel => exact ⟨i + 1, by omega, by go_num, B9.out⟩
    · have il : ¬ (i : Int) < (n : Int) := by omega
      go_wp2_with fail
      go_ret
      exact ⟨rfl, B.out⟩
/-- What is wrong with pairs. -/
def rgB (l : List Int) : Bool := l.all fun x => decide (0 ≤ x ∧ x ≤ 1099511627776)
noncomputable def wpC (L : List (List Int)) : Int := if 1 ≤ L.length ∧ L.length ≤ 12 then (if L.all (fun r => r.length == L.length) then (if L.all rgB then 0 else 4) else 2) else 2
theorem all_take {α : Type} {p : α → Bool} {l : List α} {i : Nat} (h : i < l.length) : (l.take (i + 1)).all p = ((l.take i).all p && p l[i]) := by
  rw [List.take_succ_eq_append_getElem h, List.all_append]
  simp
theorem all_no {α : Type} {p : α → Bool} {l : List α} {i : Nat} (h : i < l.length) (hp : p l[i] = false) : l.all p = false := by
  rw [List.all_eq_false]
  exact ⟨l[i], List.getElem_mem h, by simp [hp]⟩
set_option maxHeartbeats 2000000 in
theorem wrongPairs29 {w : World} {a : Option Addr} {L : List (List Int)} {c : Nat} (hs : LL w a L) :
    Calls Try.prog 29 #[.slice a L.length c] w fun e w' => e = .returned (.int .i64 (wpC L)) ∧ Below w.heap.size w w' := by
  have HS : Hid (LL w a L) := hs
  clear hs
  by_cases h1 : L.length < 1
  · have e : Hid (wpC L = 2) := by show _ = _; rw [wpC, if_neg (by omega)]
    have g1 : (L.length : Int) < 1 := by omega
    generalize wpC L = V at *
    clear h1
    go_enter Try.func29, Try.ntmps29
    go_wp2_with fail
    go_ret
    exact ⟨by rw [e.out]; rfl, Below.refl _ _⟩
  have g1 : ¬ (L.length : Int) < 1 := by omega
  by_cases h2 : 12 < L.length
  · have e : Hid (wpC L = 2) := by show _ = _; rw [wpC, if_neg (by omega)]
    have g2 : (12 : Int) < (L.length : Int) := by omega
    generalize wpC L = V at *
    clear h1 h2
    go_enter Try.func29, Try.ntmps29
    go_wp2_with fail
    go_ret
    exact ⟨by rw [e.out]; rfl, Below.refl _ _⟩
  have g2 : ¬ (12 : Int) < (L.length : Int) := by omega
  have E2 : Hid (L.all (fun r => r.length == L.length) = false → wpC L = 2) := fun h => by rw [wpC, if_pos (by omega), h]; rfl
  have E4 : Hid (L.all (fun r => r.length == L.length) = true → L.all rgB = false → wpC L = 4) := fun h h' => by rw [wpC, if_pos (by omega), h, h']; rfl
  have E0 : Hid (L.all (fun r => r.length == L.length) = true → L.all rgB = true → wpC L = 0) := fun h h' => by rw [wpC, if_pos (by omega), h, h']; rfl
  have hL : L.length ≤ 12 := by omega
  generalize wpC L = V at *
  clear h1 h2
  go_enter Try.func29, Try.ntmps29
  go_wp2_with fail
  go_loopg [4, 19] L.length (fun gk v4 v19 wr => ∃ i : Nat, i + gk = L.length ∧ v19 = .int .i64 (i : Int) ∧ wr = w ∧ (L.take i).all (fun r => r.length == L.length) = true)
  case atStart => exact ⟨0, by omega, rfl, rfl, by simp⟩
  case round =>
    obtain ⟨i, hig, rfl, hwr, hA⟩ := hrel
    have A : Hid ((L.take i).all (fun r => r.length == L.length) = true) := hA
    obtain rfl := hwr.symm
    clear hA hwr
    by_cases hi : i < L.length
    · have il : (i : Int) < (L.length : Int) := by omega
      obtain ⟨b1, o1, x1, y1, rfl, q1, _⟩ := HS.out i hi
      by_cases hl : (L[i]'hi).length = L.length
      · have hn : (((L[i]'hi).length : Int) != (L.length : Int)) = false := by simp [hl]
        have A1 : Hid ((L.take (i + 1)).all (fun r => r.length == L.length) = true) := by show _ = _; rw [all_take hi, A.out]; simp [hl]
        clear hl
        generalize (L[i]'hi).length = m at *
        go_wp2_with fail
        go_roundg (gk - 1)
        case measure => omega
        case rel => exact ⟨i + 1, by omega, by go_num, rfl, A1.out⟩
      · have hn : (((L[i]'hi).length : Int) != (L.length : Int)) = true := by simp; omega
        have e : Hid (V = 2) := E2.out (all_no hi (by simp [hl]))
        clear hl
        generalize (L[i]'hi).length = m at *
        go_wp2_with fail
        go_ret
        exact ⟨by rw [e.out]; rfl, Below.refl _ _⟩
    · have il : ¬ (i : Int) < (L.length : Int) := by omega
      have e : i = L.length := by omega
      have AL : Hid (L.all (fun r => r.length == L.length) = true) := by have := A.out; rw [e, List.take_length] at this; exact this
      clear A e
      obtain ⟨G, rfl⟩ : ∃ G, G = gk := ⟨gk, rfl⟩
      go_wp2_with fail
      go_loopg [6, 8, 31] L.length (fun gk2 v6 v8 v31 wr2 => ∃ j : Nat, j + gk2 = L.length ∧ v31 = .int .i64 (j : Int) ∧ wr2 = w ∧ (L.take j).all rgB = true)
      case atStart => exact ⟨0, by omega, rfl, rfl, by simp⟩
      case round =>
        obtain ⟨j, hjg, rfl, hwr, hA⟩ := hrel
        have A : Hid ((L.take j).all rgB = true) := hA
        obtain rfl := hwr.symm
        clear hA hwr
        by_cases hj : j < L.length
        · have jl : (j : Int) < (L.length : Int) := by omega
          obtain ⟨b1, o1, x1, y1, rfl, q1, s1⟩ := HS.out j hj
          have S1 : Hid (IL w x1 (L[j]'hj)) := s1
          have hlj : (L[j]'hj).length ≤ 12 := by
            have := List.all_eq_true.1 AL.out _ (List.getElem_mem hj)
            have : (L[j]'hj).length = L.length := by simpa using this
            omega
          have N4 : Hid (rgB (L[j]'hj) = false → V = 4) := fun h => E4.out AL.out (all_no hj h)
          have Y4 : Hid (rgB (L[j]'hj) = true → (L.take (j + 1)).all rgB = true) := fun h => by rw [all_take hj, A.out, h]; rfl
          clear s1
          generalize (L[j]'hj) = l at *
          obtain ⟨G2, rfl⟩ : ∃ G, G = gk := ⟨gk, rfl⟩
          go_wp2_with fail
          go_loopg [8, 37] l.length (fun gk3 v8 v37 wr3 => ∃ k : Nat, k + gk3 = l.length ∧ v37 = .int .i64 (k : Int) ∧ wr3 = w ∧ rgB (l.take k) = true)
          case atStart => exact ⟨0, by omega, rfl, rfl, by simp [rgB]⟩
          case round =>
            obtain ⟨k, hkg, rfl, hwr, hA⟩ := hrel
            have A3 : Hid (rgB (l.take k) = true) := hA
            obtain rfl := hwr.symm
            clear hA hwr
            by_cases hk : k < l.length
            · have kl : (k : Int) < (l.length : Int) := by omega
              obtain ⟨b2, o2, rfl, q2⟩ := S1.out k hk
              have Y1 : Hid (0 ≤ l[k] ∧ l[k] ≤ 1099511627776 → rgB (l.take (k + 1)) = true) := fun h => by
                have := A3.out
                unfold rgB at *
                rw [all_take hk, this, decide_eq_true h]; rfl
              have N1 : Hid (¬ (0 ≤ l[k] ∧ l[k] ≤ 1099511627776) → V = 4) := fun h => N4.out (all_no hk (decide_eq_false h))
              generalize l[k] = x at *
              by_cases x0 : x < 0
              · have e : Hid (V = 4) := N1.out (by omega)
                go_wp2_with fail
                go_ret
                exact ⟨by rw [e.out]; rfl, Below.refl _ _⟩
              · by_cases x1' : (1099511627776 : Int) < x
                · have e : Hid (V = 4) := N1.out (by omega)
                  go_wp2_with fail
                  go_ret
                  exact ⟨by rw [e.out]; rfl, Below.refl _ _⟩
                · have A4 : Hid (rgB (l.take (k + 1)) = true) := Y1.out (by omega)
                  go_wp2_with fail
                  go_roundg (gk - 1)
                  case measure => omega
                  case rel => exact ⟨k + 1, by omega, by go_num, rfl, A4.out⟩
            · have kl : ¬ (k : Int) < (l.length : Int) := by omega
              have e : k = l.length := by omega
              have A5 : Hid ((L.take (j + 1)).all rgB = true) := Y4.out (by have := A3.out; rw [e, List.take_length] at this; exact this)
              go_wp2_with fail
              go_roundg (G2 - 1)
              case measure => omega
              case rel => exact ⟨j + 1, by omega, by go_num, rfl, A5.out⟩
        · have jl : ¬ (j : Int) < (L.length : Int) := by omega
          have e : j = L.length := by omega
          have e0 : Hid (V = 0) := E0.out AL.out (by have := A.out; rw [e, List.take_length] at this; exact this)
          go_wp2_with fail
          go_ret
          exact ⟨by rw [e0.out]; rfl, Below.refl _ _⟩
set_option maxHeartbeats 2000000 in
theorem wrongPairs18 {w : World} {a : Option Addr} {L : List (List Int)} {c : Nat} (hs : LL w a L) :
    Calls Try.prog 18 #[.slice a L.length c] w fun e w' => e = .returned (.int .i64 (wpC L)) ∧ Below w.heap.size w w' := by
  have HS : Hid (LL w a L) := hs
  clear hs
  by_cases h1 : L.length < 1
  · have e : Hid (wpC L = 2) := by show _ = _; rw [wpC, if_neg (by omega)]
    have g1 : (L.length : Int) < 1 := by omega
    generalize wpC L = V at *
    clear h1
    go_enter Try.func18, Try.ntmps18
    go_wp2_with fail
    go_ret
    exact ⟨by rw [e.out]; rfl, Below.refl _ _⟩
  have g1 : ¬ (L.length : Int) < 1 := by omega
  by_cases h2 : 12 < L.length
  · have e : Hid (wpC L = 2) := by show _ = _; rw [wpC, if_neg (by omega)]
    have g2 : (12 : Int) < (L.length : Int) := by omega
    generalize wpC L = V at *
    clear h1 h2
    go_enter Try.func18, Try.ntmps18
    go_wp2_with fail
    go_ret
    exact ⟨by rw [e.out]; rfl, Below.refl _ _⟩
  have g2 : ¬ (12 : Int) < (L.length : Int) := by omega
  have E2 : Hid (L.all (fun r => r.length == L.length) = false → wpC L = 2) := fun h => by rw [wpC, if_pos (by omega), h]; rfl
  have E4 : Hid (L.all (fun r => r.length == L.length) = true → L.all rgB = false → wpC L = 4) := fun h h' => by rw [wpC, if_pos (by omega), h, h']; rfl
  have E0 : Hid (L.all (fun r => r.length == L.length) = true → L.all rgB = true → wpC L = 0) := fun h h' => by rw [wpC, if_pos (by omega), h, h']; rfl
  have hL : L.length ≤ 12 := by omega
  generalize wpC L = V at *
  clear h1 h2
  go_enter Try.func18, Try.ntmps18
  go_wp2_with fail
  go_loopg [4, 19] L.length (fun gk v4 v19 wr => ∃ i : Nat, i + gk = L.length ∧ v19 = .int .i64 (i : Int) ∧ wr = w ∧ (L.take i).all (fun r => r.length == L.length) = true)
  case atStart => exact ⟨0, by omega, rfl, rfl, by simp⟩
  case round =>
    obtain ⟨i, hig, rfl, hwr, hA⟩ := hrel
    have A : Hid ((L.take i).all (fun r => r.length == L.length) = true) := hA
    obtain rfl := hwr.symm
    clear hA hwr
    by_cases hi : i < L.length
    · have il : (i : Int) < (L.length : Int) := by omega
      obtain ⟨b1, o1, x1, y1, rfl, q1, _⟩ := HS.out i hi
      by_cases hl : (L[i]'hi).length = L.length
      · have hn : (((L[i]'hi).length : Int) != (L.length : Int)) = false := by simp [hl]
        have A1 : Hid ((L.take (i + 1)).all (fun r => r.length == L.length) = true) := by show _ = _; rw [all_take hi, A.out]; simp [hl]
        clear hl
        generalize (L[i]'hi).length = m at *
        go_wp2_with fail
        go_roundg (gk - 1)
        case measure => omega
        case rel => exact ⟨i + 1, by omega, by go_num, rfl, A1.out⟩
      · have hn : (((L[i]'hi).length : Int) != (L.length : Int)) = true := by simp; omega
        have e : Hid (V = 2) := E2.out (all_no hi (by simp [hl]))
        clear hl
        generalize (L[i]'hi).length = m at *
        go_wp2_with fail
        go_ret
        exact ⟨by rw [e.out]; rfl, Below.refl _ _⟩
    · have il : ¬ (i : Int) < (L.length : Int) := by omega
      have e : i = L.length := by omega
      have AL : Hid (L.all (fun r => r.length == L.length) = true) := by have := A.out; rw [e, List.take_length] at this; exact this
      clear A e
      obtain ⟨G, rfl⟩ : ∃ G, G = gk := ⟨gk, rfl⟩
      go_wp2_with fail
      go_loopg [6, 8, 31] L.length (fun gk2 v6 v8 v31 wr2 => ∃ j : Nat, j + gk2 = L.length ∧ v31 = .int .i64 (j : Int) ∧ wr2 = w ∧ (L.take j).all rgB = true)
      case atStart => exact ⟨0, by omega, rfl, rfl, by simp⟩
      case round =>
        obtain ⟨j, hjg, rfl, hwr, hA⟩ := hrel
        have A : Hid ((L.take j).all rgB = true) := hA
        obtain rfl := hwr.symm
        clear hA hwr
        by_cases hj : j < L.length
        · have jl : (j : Int) < (L.length : Int) := by omega
          obtain ⟨b1, o1, x1, y1, rfl, q1, s1⟩ := HS.out j hj
          have S1 : Hid (IL w x1 (L[j]'hj)) := s1
          have hlj : (L[j]'hj).length ≤ 12 := by
            have := List.all_eq_true.1 AL.out _ (List.getElem_mem hj)
            have : (L[j]'hj).length = L.length := by simpa using this
            omega
          have N4 : Hid (rgB (L[j]'hj) = false → V = 4) := fun h => E4.out AL.out (all_no hj h)
          have Y4 : Hid (rgB (L[j]'hj) = true → (L.take (j + 1)).all rgB = true) := fun h => by rw [all_take hj, A.out, h]; rfl
          clear s1
          generalize (L[j]'hj) = l at *
          obtain ⟨G2, rfl⟩ : ∃ G, G = gk := ⟨gk, rfl⟩
          go_wp2_with fail
          go_loopg [8, 37] l.length (fun gk3 v8 v37 wr3 => ∃ k : Nat, k + gk3 = l.length ∧ v37 = .int .i64 (k : Int) ∧ wr3 = w ∧ rgB (l.take k) = true)
          case atStart => exact ⟨0, by omega, rfl, rfl, by simp [rgB]⟩
          case round =>
            obtain ⟨k, hkg, rfl, hwr, hA⟩ := hrel
            have A3 : Hid (rgB (l.take k) = true) := hA
            obtain rfl := hwr.symm
            clear hA hwr
            by_cases hk : k < l.length
            · have kl : (k : Int) < (l.length : Int) := by omega
              obtain ⟨b2, o2, rfl, q2⟩ := S1.out k hk
              have Y1 : Hid (0 ≤ l[k] ∧ l[k] ≤ 1099511627776 → rgB (l.take (k + 1)) = true) := fun h => by
                have := A3.out
                unfold rgB at *
                rw [all_take hk, this, decide_eq_true h]; rfl
              have N1 : Hid (¬ (0 ≤ l[k] ∧ l[k] ≤ 1099511627776) → V = 4) := fun h => N4.out (all_no hk (decide_eq_false h))
              generalize l[k] = x at *
              by_cases x0 : x < 0
              · have e : Hid (V = 4) := N1.out (by omega)
                go_wp2_with fail
                go_ret
                exact ⟨by rw [e.out]; rfl, Below.refl _ _⟩
              · by_cases x1' : (1099511627776 : Int) < x
                · have e : Hid (V = 4) := N1.out (by omega)
                  go_wp2_with fail
                  go_ret
                  exact ⟨by rw [e.out]; rfl, Below.refl _ _⟩
                · have A4 : Hid (rgB (l.take (k + 1)) = true) := Y1.out (by omega)
                  go_wp2_with fail
                  go_roundg (gk - 1)
                  case measure => omega
                  case rel => exact ⟨k + 1, by omega, by go_num, rfl, A4.out⟩
            · have kl : ¬ (k : Int) < (l.length : Int) := by omega
              have e : k = l.length := by omega
              have A5 : Hid ((L.take (j + 1)).all rgB = true) := Y4.out (by have := A3.out; rw [e, List.take_length] at this; exact this)
              go_wp2_with fail
              go_roundg (G2 - 1)
              case measure => omega
              case rel => exact ⟨j + 1, by omega, by go_num, rfl, A5.out⟩
        · have jl : ¬ (j : Int) < (L.length : Int) := by omega
          have e : j = L.length := by omega
          have e0 : Hid (V = 0) := E0.out AL.out (by have := A.out; rw [e, List.take_length] at this; exact this)
          go_wp2_with fail
          go_ret
          exact ⟨by rw [e0.out]; rfl, Below.refl _ _⟩
end Go.Proofs.Ytcdmndcpjememaa
