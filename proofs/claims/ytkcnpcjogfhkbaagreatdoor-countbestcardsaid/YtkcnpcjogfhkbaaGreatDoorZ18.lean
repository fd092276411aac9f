/- What is wrong with squares; what lists have in common. Ways: the program's. Ways: the program's, on. -/
import Derived.Test.YtkcnpcjogfhkbaaGreatDoorZ17
import Derived.Deep.RegionHeld3
import Derived.StillTailTactics
import Derived.Deep.Cut
set_option linter.unusedSimpArgs false
set_option linter.unusedVariables false
set_option maxRecDepth 100000
namespace Go.Proofs.YtkcnpcjogfhkbaaGreatDoor
open Go.RowKit Go.Deep Go.PlainAid

/-- Lists of numbers. -/
def LL (w : World) (a : Option Addr) (L : List (List Int)) : Prop := ∀ i (h : i < L.length), ∃ b o a' c, a = some ⟨b, o, none⟩ ∧ w.cell? ⟨b, o + i, none⟩ = some (.slice a' (L[i]'h).length c) ∧ IL w a' (L[i]'h)
theorem LL.of_below {w w' : World} {a : Option Addr} {L : List (List Int)} (h : LL w a L) (hb : Below w.heap.size w w') : LL w' a L := fun i hi => by
  obtain ⟨b, o, a', c, e, hc, hr⟩ := h i hi
  exact ⟨b, o, a', c, e, cell_keep hc hb, hr.of_below hb⟩
set_option maxHeartbeats 1000000 in
theorem sameInts11 {w : World} {a b : Option Addr} {n c d : Nat} {f : Nat → Int} (hn : n ≤ 4096) (h1 : IR w a n f) (h2 : IR w b n f) :
    Calls Tryz.prog 9 #[.slice a n c, .slice b n d] w fun e w' => e = .returned (.bool true) ∧ Below w.heap.size w w' := by
  have H1 : Hid (IR w a n f) := h1
  have H2 : Hid (IR w b n f) := h2
  clear h1 h2
  go_enter Tryz.func9, Tryz.ntmps9
  go_wp2_with fail
  go_loopg [5, 13] n (fun gk v5 v13 wr => ∃ i : Nat, i + gk = n ∧ v13 = .int .i64 (i : Int) ∧ Below w.heap.size w wr)
  case atStart => exact ⟨0, by omega, rfl, Below.refl _ _⟩
  case round =>
    obtain ⟨i, hig, rfl, hB⟩ := hrel
    have B : Hid (Below w.heap.size w wr) := hB
    clear hB
    by_cases hi : i < n
    · have il : (i : Int) < (n : Int) := by omega
      obtain ⟨b1, o1, rfl, q1⟩ := H1.out.of_below B.out i hi
      obtain ⟨b2, o2, rfl, q2⟩ := H2.out.of_below B.out i hi
      generalize f i = x at *
      go_wp2_with fail
      go_quiet (fail)
      have BQ : Hid (Below w.heap.size w (World.drewN wr nq)) := B.out.trans ⟨rfl, rfl, rfl, Nat.le_refl _, fun _ _ => rfl⟩
      clear q1 q2
      generalize World.drewN wr nq = wq at *
      go_wp2_with fail
      go_roundg (gk - 1)
      case measure => omega
      case rel => exact ⟨i + 1, by omega, by go_num, BQ.out⟩
    · have il : ¬ (i : Int) < (n : Int) := by omega
      go_wp2_with fail
      go_ret
      exact ⟨rfl, B.out⟩
/-- What is wrong with pairs. -/
def rgB (l : List Int) : Bool := l.all fun x => decide (0 ≤ x ∧ x ≤ 1099511627776)
noncomputable def wpC (L : List (List Int)) : Int := if 1 ≤ L.length ∧ L.length ≤ 12 then (if L.all (fun r => r.length == L.length) then (if L.all rgB then 0 else 4) else 2) else 2
theorem all_take {α : Type} {p : α → Bool} {l : List α} {i : Nat} (h : i < l.length) : (l.take (i + 1)).all p = ((l.take i).all p && p l[i]) := by
  rw [List.take_succ_eq_append_getElem h, List.all_append]
  simp
theorem all_no {α : Type} {p : α → Bool} {l : List α} {i : Nat} (h : i < l.length) (hp : p l[i] = false) : l.all p = false := by
  rw [List.all_eq_false]
  exact ⟨l[i], List.getElem_mem h, by simp [hp]⟩
set_option maxHeartbeats 2000000 in
theorem wrongPairs29 {w : World} {a : Option Addr} {L : List (List Int)} {c : Nat} (hs : LL w a L) :
    Calls Tryz.prog 27 #[.slice a L.length c] w fun e w' => e = .returned (.int .i64 (wpC L)) ∧ Below w.heap.size w w' := by
  have HS : Hid (LL w a L) := hs
  clear hs
  by_cases h1 : L.length < 1
  · have e : Hid (wpC L = 2) := by show _ = _; rw [wpC, if_neg (by omega)]
    have g1 : (L.length : Int) < 1 := by omega
    generalize wpC L = V at *
    clear h1
    go_enter Tryz.func27, Tryz.ntmps27
    go_wp2_with fail
    go_ret
    exact ⟨by rw [e.out]; rfl, Below.refl _ _⟩
  have g1 : ¬ (L.length : Int) < 1 := by omega
  by_cases h2 : 12 < L.length
  · have e : Hid (wpC L = 2) := by show _ = _; rw [wpC, if_neg (by omega)]
    have g2 : (12 : Int) < (L.length : Int) := by omega
    generalize wpC L = V at *
    clear h1 h2
    go_enter Tryz.func27, Tryz.ntmps27
    go_wp2_with fail
    go_ret
    exact ⟨by rw [e.out]; rfl, Below.refl _ _⟩
  have g2 : ¬ (12 : Int) < (L.length : Int) := by omega
  have E2 : Hid (L.all (fun r => r.length == L.length) = false → wpC L = 2) := fun h => by rw [wpC, if_pos (by omega), h]; rfl
  have E4 : Hid (L.all (fun r => r.length == L.length) = true → L.all rgB = false → wpC L = 4) := fun h h' => by rw [wpC, if_pos (by omega), h, h']; rfl
  have E0 : Hid (L.all (fun r => r.length == L.length) = true → L.all rgB = true → wpC L = 0) := fun h h' => by rw [wpC, if_pos (by omega), h, h']; rfl
  have hL : L.length ≤ 12 := by omega
  generalize wpC L = V at *
  clear h1 h2
  go_enter Tryz.func27, Tryz.ntmps27
  go_wp2_with fail
  go_loopg [4, 19] L.length (fun gk v4 v19 wr => ∃ i : Nat, i + gk = L.length ∧ v19 = .int .i64 (i : Int) ∧ wr = w ∧ (L.take i).all (fun r => r.length == L.length) = true)
  case atStart => exact ⟨0, by omega, rfl, rfl, by simp⟩
  case round =>
    obtain ⟨i, hig, rfl, hwr, hA⟩ := hrel
    have A : Hid ((L.take i).all (fun r => r.length == L.length) = true) := hA
    obtain rfl := hwr.symm
    clear hA hwr
    by_cases hi : i < L.length
    · have il : (i : Int) < (L.length : Int) := by omega
      obtain ⟨b1, o1, x1, y1, rfl, q1, _⟩ := HS.out i hi
      by_cases hl : (L[i]'hi).length = L.length
      · have hn : (((L[i]'hi).length : Int) != (L.length : Int)) = false := by simp [hl]
        have A1 : Hid ((L.take (i + 1)).all (fun r => r.length == L.length) = true) := by show _ = _; rw [all_take hi, A.out]; simp [hl]
        clear hl
        generalize (L[i]'hi).length = m at *
        go_wp2_with fail
        go_roundg (gk - 1)
        case measure => omega
        case rel => exact ⟨i + 1, by omega, by go_num, rfl, A1.out⟩
      · have hn : (((L[i]'hi).length : Int) != (L.length : Int)) = true := by simp; omega
        have e : Hid (V = 2) := E2.out (all_no hi (by simp [hl]))
        clear hl
        generalize (L[i]'hi).length = m at *
        go_wp2_with fail
        go_ret
        exact ⟨by rw [e.out]; rfl, Below.refl _ _⟩
    · have il : ¬ (i : Int) < (L.length : Int) := by omega
      have e : i = L.length := by omega
      have AL : Hid (L.all (fun r => r.length == L.length) = true) := by have := A.out; rw [e, List.take_length] at this; exact this
      clear A e
      obtain ⟨G, rfl⟩ : ∃ G, G = gk := ⟨gk, rfl⟩
      go_wp2_with fail
      go_loopg [6, 8, 31] L.length (fun gk2 v6 v8 v31 wr2 => ∃ j : Nat, j + gk2 = L.length ∧ v31 = .int .i64 (j : Int) ∧ wr2 = w ∧ (L.take j).all rgB = true)
      case atStart => exact ⟨0, by omega, rfl, rfl, by simp⟩
      case round =>
        obtain ⟨j, hjg, rfl, hwr, hA⟩ := hrel
        have A : Hid ((L.take j).all rgB = true) := hA
        obtain rfl := hwr.symm
        clear hA hwr
        by_cases hj : j < L.length
        · have jl : (j : Int) < (L.length : Int) := by omega
          obtain ⟨b1, o1, x1, y1, rfl, q1, s1⟩ := HS.out j hj
          have S1 : Hid (IL w x1 (L[j]'hj)) := s1
          have hlj : (L[j]'hj).length ≤ 12 := by
            have := List.all_eq_true.1 AL.out _ (List.getElem_mem hj)
            have : (L[j]'hj).length = L.length := by simpa using this
            omega
          have N4 : Hid (rgB (L[j]'hj) = false → V = 4) := fun h => E4.out AL.out (all_no hj h)
          have Y4 : Hid (rgB (L[j]'hj) = true → (L.take (j + 1)).all rgB = true) := fun h => by rw [all_take hj, A.out, h]; rfl
          clear s1
          generalize (L[j]'hj) = l at *
          obtain ⟨G2, rfl⟩ : ∃ G, G = gk := ⟨gk, rfl⟩
          go_wp2_with fail
          go_loopg [8, 37] l.length (fun gk3 v8 v37 wr3 => ∃ k : Nat, k + gk3 = l.length ∧ v37 = .int .i64 (k : Int) ∧ wr3 = w ∧ rgB (l.take k) = true)
          case atStart => exact ⟨0, by omega, rfl, rfl, by simp [rgB]⟩
          case round =>
            obtain ⟨k, hkg, rfl, hwr, hA⟩ := hrel
            have A3 : Hid (rgB (l.take k) = true) := hA
            obtain rfl := hwr.symm
            clear hA hwr
            by_cases hk : k < l.length
            · have kl : (k : Int) < (l.length : Int) := by omega
              obtain ⟨b2, o2, rfl, q2⟩ := S1.out k hk
              have Y1 : Hid (0 ≤ l[k] ∧ l[k] ≤ 1099511627776 → rgB (l.take (k + 1)) = true) := fun h => by
                have := A3.out
                unfold rgB at *
                rw [all_take hk, this, decide_eq_true h]; rfl
              have N1 : Hid (¬ (0 ≤ l[k] ∧ l[k] ≤ 1099511627776) → V = 4) := fun h => N4.out (all_no hk (decide_eq_false h))
              generalize l[k] = x at *
              by_cases x0 : x < 0
              · have e : Hid (V = 4) := N1.out (by omega)
                go_wp2_with fail
                go_ret
                exact ⟨by rw [e.out]; rfl, Below.refl _ _⟩
              · by_cases x1' : (1099511627776 : Int) < x
                · have e : Hid (V = 4) := N1.out (by omega)
                  go_wp2_with fail
                  go_ret
                  exact ⟨by rw [e.out]; rfl, Below.refl _ _⟩
                · have A4 : Hid (rgB (l.take (k + 1)) = true) := Y1.out (by omega)
                  go_wp2_with fail
                  go_roundg (gk - 1)
                  case measure => omega
                  case rel => exact ⟨k + 1, by omega, by go_num, rfl, A4.out⟩
            · have kl : ¬ (k : Int) < (l.length : Int) := by omega
              have e : k = l.length := by omega
              have A5 : Hid ((L.take (j + 1)).all rgB = true) := Y4.out (by have := A3.out; rw [e, List.take_length] at this; exact this)
              go_wp2_with fail
              go_roundg (G2 - 1)
              case measure => omega
              case rel => exact ⟨j + 1, by omega, by go_num, rfl, A5.out⟩
        · have jl : ¬ (j : Int) < (L.length : Int) := by omega
          have e : j = L.length := by omega
          have e0 : Hid (V = 0) := E0.out AL.out (by have := A.out; rw [e, List.take_length] at this; exact this)
          go_wp2_with fail
          go_ret
          exact ⟨by rw [e0.out]; rfl, Below.refl _ _⟩
end Go.Proofs.YtkcnpcjogfhkbaaGreatDoor
namespace Go.Proofs.YtkcnpcjogfhkbaaGreatDoor
open Go.RowKit Go.Deep Go.PlainAid

theorem mixed : Tryz.prog.follows .mixedOrders = true := by kernel_rfl
theorem MX.congr {w : World} {b n : Nat} {M K : Mt} (h : MX w b n M) (e : ∀ i j, i < n → j < n → M i j = K i j) : MX w b n K := ⟨h.top, fun i hi => by
  have q : rowV n (M i) = rowV n (K i) := List.map_congr_left fun j hj => by rw [e i j hi (by simpa using hj)]
  rw [← q]
  exact h.row i hi⟩
theorem MX.frz {w : World} {b n : Nat} {M : Mt} (h : MX w b n M) {i : Nat} (hi : i < n) (j : Nat) : w.frozen? ⟨b + 1 + i, j, none⟩ = false := (h.row i hi).frozen j
theorem SQ.congr {w : World} {a : Option Addr} {n : Nat} {M K : Mt} (h : SQ w a n M) (e : ∀ i j, i < n → j < n → M i j = K i j) : SQ w a n K := fun i hi => by
  obtain ⟨b, o, a', c, e1, h1, h2⟩ := h i hi
  refine ⟨b, o, a', c, e1, h1, fun j hj => ?_⟩
  rw [← e i j hi hj]
  exact h2 j hj
/-- Numbers up to a place alone. -/
def part (i j : Nat) (F : Mt) : Mt := fun a b => if a < i ∨ (a = i ∧ b < j) then F a b else 0
theorem part_upd (i j : Nat) (F : Mt) : upd (part i j F) i j (F i j) = part i (j + 1) F := by
  funext a b
  unfold upd part
  by_cases h : a = i ∧ b = j
  · rw [if_pos h, if_pos (by omega)]
    rw [h.1, h.2]
  · rw [if_neg h]
    by_cases q : a < i ∨ (a = i ∧ b < j)
    · rw [if_pos q, if_pos (by omega)]
    · rw [if_neg q, if_neg (by omega)]
theorem part_zero (i j : Nat) (F : Mt) (h0 : F i j = 0) : part i j F = part i (j + 1) F := by
  funext a b
  unfold part
  by_cases h : a = i ∧ b = j
  · rw [if_neg (by omega), if_pos (by omega), h.1, h.2, h0]
  · by_cases q : a < i ∨ (a = i ∧ b < j)
    · rw [if_pos q, if_pos (by omega)]
    · rw [if_neg q, if_neg (by omega)]
theorem part_row {n i : Nat} (F : Mt) : ∀ a b, a < n → b < n → part i n F a b = part (i + 1) 0 F a b := fun a b ha hb => by
  unfold part
  by_cases q : a < i ∨ (a = i ∧ b < n)
  · rw [if_pos q, if_pos (by omega)]
  · rw [if_neg q, if_neg (by omega)]
theorem part_all {n : Nat} (F : Mt) : ∀ a b, a < n → b < n → part n 0 F a b = F a b := fun a b ha hb => by
  unfold part
  rw [if_pos (by omega)]
/-- A row's header and a number of it, in every later world. -/
theorem SQ.two {w : World} {a : Option Addr} {n : Nat} {P : Mt} (h : SQ w a n P) {i j : Nat} (hi : i < n) (hj : j < n) : ∃ sb so x1 x2 y, a = some ⟨sb, so, none⟩ ∧ ∀ V, Below w.heap.size w V → V.cell? ⟨sb, so + i, none⟩ = some (.slice (some ⟨x1, x2, none⟩) n y) ∧ V.cell? ⟨x1, x2 + j, none⟩ = some (.int .i64 (P i j)) := by
  obtain ⟨sb, so, x, y, e, h1, h2⟩ := h i hi
  obtain ⟨x1, x2, rfl, h3⟩ := h2 j hj
  exact ⟨sb, so, x1, x2, y, e, fun V hV => ⟨cell_keep h1 hV, cell_keep h3 hV⟩⟩
set_option maxHeartbeats 2000000 in
theorem beaten30 {w : World} {a : Option Addr} {n c : Nat} {P : Mt} (hn : n ≤ 12) (hs : SQ w a n P) :
    Calls Tryz.prog 28 #[.slice a n c] w fun e w' => e = .returned (.slice (some ⟨w.heap.size, 0, none⟩) n n) ∧ MX w' w.heap.size n (btM P) ∧ Below w.heap.size w w' := by
  have HS : Hid (SQ w a n P) := hs
  have HZ : Hid (Calls Tryz.prog 23 #[.int .i64 (n : Int)] w fun e w' => e = .returned (.slice (some ⟨w.heap.size, 0, none⟩) n n) ∧ MX w' w.heap.size n (fun _ _ => 0) ∧ Below w.heap.size w w') := zeros24 hn
  have HB : Hid (∀ W i j, Below w.heap.size w W → i < n → j < n → Calls Tryz.prog 40 #[.slice a n c, .int .i64 (i : Int), .int .i64 (j : Int)] W fun e w' => e = .returned (.bool (decide (P j i < P i j))) ∧ Below W.heap.size W w') := fun W i j hW hi hj => beats40 (hs.of_below hW) hi hj
  clear hs
  go_enter Tryz.func28, Tryz.ntmps28
  go_upto_region 2 with (go_at_call 23; refine (HZ.out).mono ?_; rintro e U ⟨rfl, hM, hB⟩; have M0 : Hid (MX U w.heap.size n (part 0 0 (btM P))) := hM.congr (fun i j hi hj => by simp [part]); have B0 : Hid (Below w.heap.size w U) := hB; clear hM hB HZ)
  obtain ⟨b, hb⟩ : ∃ b, b = w.heap.size := ⟨_, rfl⟩
  rw [← hb]
  have Hb : Hid (b = w.heap.size) := hb
  rw [← hb] at M0
  clear hb
  go_wp2_with fail
  go_loopg [4, 5, 6, 12] n (fun gk v4 v5 v6 v12 wr => ∃ i : Nat, i + gk = n ∧ v12 = .int .i64 (i : Int) ∧ MX wr b n (part i 0 (btM P)) ∧ Below w.heap.size w wr)
  case atStart => exact ⟨0, by omega, rfl, M0.out, B0.out⟩
  case round =>
    obtain ⟨i, hig, rfl, hM, hB⟩ := hrel
    have M : Hid (MX wr b n (part i 0 (btM P))) := hM
    have B : Hid (Below w.heap.size w wr) := hB
    clear hM hB M0 B0
    by_cases hi : i < n
    · have il : (i : Int) < (n : Int) := by omega
      have q0 := M.out.hdr hi
      obtain ⟨G, rfl⟩ : ∃ G, G = gk := ⟨gk, rfl⟩
      go_wp2_with fail
      clear q0
      go_loopg [6, 19] n (fun gk2 v6 v19 wr2 => ∃ j : Nat, j + gk2 = n ∧ v19 = .int .i64 (j : Int) ∧ MX wr2 b n (part i j (btM P)) ∧ Below w.heap.size w wr2)
      case atStart => exact ⟨0, by omega, rfl, M.out, B.out⟩
      case round =>
        obtain ⟨j, hjg, rfl, hM, hB⟩ := hrel
        have M2 : Hid (MX wr b n (part i j (btM P))) := hM
        have B2 : Hid (Below w.heap.size w wr) := hB
        clear hM hB M B
        by_cases hj : j < n
        · have jl : (j : Int) < (n : Int) := by omega
          have hc : Hid (Calls Tryz.prog 40 #[.slice a n c, .int .i64 (i : Int), .int .i64 (j : Int)] wr fun e w' => e = .returned (.bool (decide (P j i < P i j))) ∧ Below wr.heap.size wr w') := HB.out wr i j B2.out hi hj
          by_cases hp : P j i < P i j
          · rw [decide_eq_true hp] at hc
            have EV : Hid (btM P i j = P i j) := by show _ = _; unfold btM; rw [if_pos hp]
            clear hp
            obtain ⟨sb, so, x1, x2, y1, rfl, kc⟩ := HS.out.two hi hj
            have KC : Hid (∀ V, Below w.heap.size w V → V.cell? ⟨sb, so + i, none⟩ = some (.slice (some ⟨x1, x2, none⟩) n y1) ∧ V.cell? ⟨x1, x2 + j, none⟩ = some (.int .i64 (P i j))) := kc
            clear kc
            go_wp2_with (go_at_call 40; refine (hc.out).mono ?_; rintro e V1 ⟨rfl, hB1⟩; have B3 : Hid (Below w.heap.size w V1) := B2.out.trans (hB1.mono B2.out.size); have M3 : Hid (MX V1 b n (part i j (btM P))) := M2.out.of_below hB1; obtain ⟨k1, k2⟩ := KC.out _ B3.out; have k3 := M3.out.at hi hj; have k4 := M3.out.frz hi j; clear hB1 hc M2 B2)
            have M4 : Hid (MX (V1.setCell ⟨b + 1 + i, j, none⟩ (.int .i64 (P i j))) b n (part i (j + 1) (btM P))) := by
              have q := M3.out.set hi hj (btM P i j)
              rw [part_upd, EV.out] at q
              exact q
            have B4 : Hid (Below w.heap.size w (V1.setCell ⟨b + 1 + i, j, none⟩ (.int .i64 (P i j)))) := B3.out.setCell (by have := Hb.out; show _ ≤ b + 1 + i; omega) _
            clear k1 k2 k3 k4 M3 B3
            generalize (V1.setCell ⟨b + 1 + i, j, none⟩ (.int .i64 (P i j))) = V2 at *
            go_roundg (gk - 1)
            case measure => omega
            case rel => exact ⟨j + 1, by omega, by go_num, M4.out, B4.out⟩
          · rw [decide_eq_false hp] at hc
            have EV : Hid (btM P i j = 0) := by show _ = _; unfold btM; rw [if_neg hp]
            clear hp
            go_wp2_with (go_at_call 40; refine (hc.out).mono ?_; rintro e V1 ⟨rfl, hB1⟩; have B3 : Hid (Below w.heap.size w V1) := B2.out.trans (hB1.mono B2.out.size); have M3 : Hid (MX V1 b n (part i (j + 1) (btM P))) := (by rw [← part_zero _ _ _ EV.out]; exact M2.out.of_below hB1); clear hB1 hc M2 B2)
            go_roundg (gk - 1)
            case measure => omega
            case rel => exact ⟨j + 1, by omega, by go_num, M3.out, B3.out⟩
        · have jl : ¬ (j : Int) < (n : Int) := by omega
          have e : j = n := by omega
          subst e
          have M3 : Hid (MX wr b j (part (i + 1) 0 (btM P))) := M2.out.congr (part_row _)
          go_wp2_with fail
          go_roundg (G - 1)
          case measure => omega
          case rel => exact ⟨i + 1, by omega, by go_num, M3.out, B2.out⟩
    · have il : ¬ (i : Int) < (n : Int) := by omega
      have e : i = n := by omega
      subst e
      go_wp2_with fail
      go_ret
      exact ⟨by rw [Hb.out]; rfl, by rw [← Hb.out]; exact M.out.congr (part_all _), B.out⟩
end Go.Proofs.YtkcnpcjogfhkbaaGreatDoor
namespace Go.Proofs.YtkcnpcjogfhkbaaGreatDoor
open Go.RowKit Go.Deep Go.PlainAid

set_option maxHeartbeats 4000000 in
theorem paths17 {w : World} {a : Option Addr} {n c : Nat} {P : Mt} (hn : n ≤ 12) (hs : SQ w a n P) (hp : ∀ i j, i < n → j < n → 0 ≤ P i j) :
    Calls Tryz.prog 15 #[.slice a n c] w fun e w' => e = .returned (.slice (some ⟨w.heap.size, 0, none⟩) n n) ∧ (∃ M, Str P n M ∧ MX w' w.heap.size n M) ∧ Below w.heap.size w w' := by
  have HB : Hid (Calls Tryz.prog 28 #[.slice a n c] w fun e w' => e = .returned (.slice (some ⟨w.heap.size, 0, none⟩) n n) ∧ MX w' w.heap.size n (btM P) ∧ Below w.heap.size w w') := beaten30 hn hs
  have I0 : Hid (Inv P n 0 0 0 (btM P)) := btM_inv hp
  clear hs hp
  go_enter Tryz.func15, Tryz.ntmps15
  go_upto_region 2 with (go_at_call 28; refine (HB.out).mono ?_; rintro e U ⟨rfl, hM, hB⟩; have M0 : Hid (MX U w.heap.size n (btM P)) := hM; have B0 : Hid (Below w.heap.size w U) := hB; clear hM hB HB)
  obtain ⟨b, hb⟩ : ∃ b, b = w.heap.size := ⟨_, rfl⟩
  rw [← hb]
  have Hb : Hid (b = w.heap.size) := hb
  rw [← hb] at M0
  clear hb
  go_wp2_with fail
  go_loopg [4, 5, 6, 7, 12] n (fun gk v4 v5 v6 v7 v12 wr => ∃ (k : Nat) (M : Mt), k + gk = n ∧ v12 = .int .i64 (k : Int) ∧ Inv P n k 0 0 M ∧ MX wr b n M ∧ Below w.heap.size w wr)
  case atStart => exact ⟨0, btM P, by omega, rfl, I0.out, M0.out, B0.out⟩
  case round =>
    obtain ⟨k, M, hkg, rfl, hI, hM, hB⟩ := hrel
    have I1 : Hid (Inv P n k 0 0 M) := hI
    have M1 : Hid (MX wr b n M) := hM
    have B1 : Hid (Below w.heap.size w wr) := hB
    clear hI hM hB M0 B0 I0
    by_cases hk : k < n
    · have kl : (k : Int) < (n : Int) := by omega
      obtain ⟨G1, rfl⟩ : ∃ G, G = gk := ⟨gk, rfl⟩
      go_wp2_with fail
      go_loopg [5, 6, 7, 17] n (fun gk2 v5 v6 v7 v17 wr2 => ∃ (i : Nat) (M : Mt), i + gk2 = n ∧ v17 = .int .i64 (i : Int) ∧ Inv P n k i 0 M ∧ MX wr2 b n M ∧ Below w.heap.size w wr2)
      case atStart => exact ⟨0, M, by omega, rfl, I1.out, M1.out, B1.out⟩
      case round =>
        clear I1 M1 B1
        obtain ⟨i, M2, hig, rfl, hI, hM, hB⟩ := hrel
        have I2 : Hid (Inv P n k i 0 M2) := hI
        have K2 : Hid (MX wr b n M2) := hM
        have B2 : Hid (Below w.heap.size w wr) := hB
        clear hI hM hB
        by_cases hi : i < n
        · have il : (i : Int) < (n : Int) := by omega
          have q0 := K2.out.hdr hi
          obtain ⟨G2, rfl⟩ : ∃ G, G = gk := ⟨gk, rfl⟩
          go_wp2_with fail
          clear q0
          go_loopg [7, 24] n (fun gk3 v7 v24 wr3 => ∃ (j : Nat) (M : Mt), j + gk3 = n ∧ v24 = .int .i64 (j : Int) ∧ Inv P n k i j M ∧ MX wr3 b n M ∧ Below w.heap.size w wr3)
          case atStart => exact ⟨0, M2, by omega, rfl, I2.out, K2.out, B2.out⟩
          case round =>
            clear I2 K2 B2
            obtain ⟨j, M3, hjg, rfl, hI, hM, hB⟩ := hrel
            have I3 : Hid (Inv P n k i j M3) := hI
            have K3 : Hid (MX wr b n M3) := hM
            have B3 : Hid (Below w.heap.size w wr) := hB
            clear hI hM hB
            by_cases hj : j < n
            · have jl : (j : Int) < (n : Int) := by omega
              by_cases hij : i = j
              · have I4 : Hid (Inv P n k i (j + 1) M3) := I3.out.skip hij
                have eb : ((i : Int) != (j : Int)) = false := by simp [hij]
                clear hij
                go_wp2_with fail
                go_roundg (gk - 1)
                case measure => omega
                case rel => exact ⟨j + 1, M3, by omega, by go_num, I4.out, K3.out, B3.out⟩
              · have eb : ((i : Int) != (j : Int)) = true := by simp; omega
                have I4 : Hid (Inv P n k i (j + 1) (upd M3 i j (fwV M3 k i j))) := I3.out.step hk hi hj hij
                have K4 : Hid (∀ v : Int, v = fwV M3 k i j → MX (wr.setCell ⟨b + 1 + i, j, none⟩ (.int .i64 v)).drew b n (upd M3 i j (fwV M3 k i j))) := fun v hv => by
                  have q := K3.out.set hi hj v
                  rw [hv] at q ⊢
                  exact ⟨q.top, q.row⟩
                have B4 : Hid (∀ v : Int, Below w.heap.size w (wr.setCell ⟨b + 1 + i, j, none⟩ (.int .i64 v)).drew) := fun v => (B3.out.setCell (by have := Hb.out; show _ ≤ b + 1 + i; omega) _).drew
                have k1 : wr.drew.cell? ⟨b + 1 + i, j, none⟩ = some (.int .i64 (M3 i j)) := K3.out.at hi hj
                have k2 : wr.drew.cell? ⟨b + 1 + i, k, none⟩ = some (.int .i64 (M3 i k)) := K3.out.at hi hk
                have k3 : wr.drew.cell? ⟨b, k, none⟩ = some (.slice (some ⟨b + 1 + k, 0, none⟩) n n) := K3.out.hdr hk
                have k4 : wr.drew.cell? ⟨b + 1 + k, j, none⟩ = some (.int .i64 (M3 k j)) := K3.out.at hk hj
                have k5 : wr.drew.frozen? ⟨b + 1 + i, j, none⟩ = false := K3.out.frz hi j
                unfold fwV at I4 K4
                clear hij
                go_wp2_with fail
                generalize M3 i j = xij at *
                generalize M3 i k = xik at *
                generalize M3 k j = xkj at *
                refine wp_region_still_tail 20 mixed (by kernel_rfl) ?_
                simp only [List.take_succ_cons, List.take_zero, List.drop_succ_cons, List.drop_zero]
                show wpStill _ _ wr.drew _ _ _
                repeat still_step
                try refine wpStill_nil ?_
                go_wp2_with fail
                all_goals
                  go_roundg (gk - 1)
                  case measure => omega
                  case rel => exact ⟨j + 1, _, by omega, by go_num, I4.out, K4.out _ (by omega), B4.out _⟩
            · have jl : ¬ (j : Int) < (n : Int) := by omega
              have e : j = n := by omega
              subst e
              have I4 : Hid (Inv P j k (i + 1) 0 M3) := I3.out.row
              go_wp2_with fail
              go_roundg (G2 - 1)
              case measure => omega
              case rel => exact ⟨i + 1, M3, by omega, by go_num, I4.out, K3.out, B3.out⟩
        · have il : ¬ (i : Int) < (n : Int) := by omega
          have e : i = n := by omega
          subst e
          have I4 : Hid (Inv P i (k + 1) 0 0 M2) := I2.out.via
          go_wp2_with fail
          go_roundg (G1 - 1)
          case measure => omega
          case rel => exact ⟨k + 1, M2, by omega, by go_num, I4.out, K2.out, B2.out⟩
    · have kl : ¬ (k : Int) < (n : Int) := by omega
      have e : k = n := by omega
      subst e
      go_wp2_with fail
      go_ret
      exact ⟨by rw [Hb.out]; rfl, ⟨M, I1.out.str, by rw [← Hb.out]; exact M1.out⟩, B1.out⟩
end Go.Proofs.YtkcnpcjogfhkbaaGreatDoor
