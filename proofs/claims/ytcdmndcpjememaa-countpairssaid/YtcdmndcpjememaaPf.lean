/- Ways: the program's. -/
import Derived.Test.YtcdmndcpjememaaPw
import Derived.StillTailTactics
import Derived.Deep.Cut
set_option linter.unusedSimpArgs false
set_option linter.unusedVariables false
set_option maxRecDepth 100000
namespace Go.Proofs.Ytcdmndcpjememaa
open Go.RowKit Go.Deep Go.PlainAid

theorem mixed : Try.prog.follows .mixedOrders = true := by kernel_rfl
theorem MX.congr {w : World} {b n : Nat} {M K : Mt} (h : MX w b n M) (e : ∀ i j, i < n → j < n → M i j = K i j) : MX w b n K := ⟨h.top, fun i hi => by
  have q : rowV n (M i) = rowV n (K i) := List.map_congr_left fun j hj => by rw [e i j hi (by simpa using hj)]
  rw [← q]
  exact h.row i hi⟩
theorem MX.frz {w : World} {b n : Nat} {M : Mt} (h : MX w b n M) {i : Nat} (hi : i < n) (j : Nat) : w.frozen? ⟨b + 1 + i, j, none⟩ = false := (h.row i hi).frozen j
theorem SQ.congr {w : World} {a : Option Addr} {n : Nat} {M K : Mt} (h : SQ w a n M) (e : ∀ i j, i < n → j < n → M i j = K i j) : SQ w a n K := fun i hi => by
  obtain ⟨b, o, a', c, e1, h1, h2⟩ := h i hi
  refine ⟨b, o, a', c, e1, h1, fun j hj => ?_⟩
  rw [← e i j hi hj]
  exact h2 j hj
/-- Numbers up to a place alone. -/
def part (i j : Nat) (F : Mt) : Mt := fun a b => if a < i ∨ (a = i ∧ b < j) then F a b else 0
theorem part_upd (i j : Nat) (F : Mt) : upd (part i j F) i j (F i j) = part i (j + 1) F := by
  funext a b
  unfold upd part
  by_cases h : a = i ∧ b = j
  · rw [if_pos h, if_pos (by omega)]
    rw [h.1, h.2]
  · rw [if_neg h]
    by_cases q : a < i ∨ (a = i ∧ b < j)
    · rw [if_pos q, if_pos (by omega)]
    · rw [if_neg q, if_neg (by omega)]
theorem part_zero (i j : Nat) (F : Mt) (h0 : F i j = 0) : part i j F = part i (j + 1) F := by
  funext a b
  unfold part
  by_cases h : a = i ∧ b = j
  · rw [if_neg (by omega), if_pos (by omega), h.1, h.2, h0]
  · by_cases q : a < i ∨ (a = i ∧ b < j)
    · rw [if_pos q, if_pos (by omega)]
    · rw [if_neg q, if_neg (by omega)]
theorem part_row {n i : Nat} (F : Mt) : ∀ a b, a < n → b < n → part i n F a b = part (i + 1) 0 F a b := fun a b ha hb => by
  unfold part
  by_cases q : a < i ∨ (a = i ∧ b < n)
  · rw [if_pos q, if_pos (by omega)]
  · rw [if_neg q, if_neg (by omega)]
theorem part_all {n : Nat} (F : Mt) : ∀ a b, a < n → b < n → part n 0 F a b = F a b := fun a b ha hb => by
  unfold part
  rw [if_pos (by omega)]
/-- A row's header and a number of it, in every later world. -/
theorem SQ.two {w : World} {a : Option Addr} {n : Nat} {P : Mt} (h : SQ w a n P) {i j : Nat} (hi : i < n) (hj : j < n) : ∃ sb so x1 x2 y, a = some ⟨sb, so, none⟩ ∧ ∀ V, Below w.heap.size w V → V.cell? ⟨sb, so + i, none⟩ = some (.slice (some ⟨x1, x2, none⟩) n y) ∧ V.cell? ⟨x1, x2 + j, none⟩ = some (.int .i64 (P i j)) := by
  obtain ⟨sb, so, x, y, e, h1, h2⟩ := h i hi
  obtain ⟨x1, x2, rfl, h3⟩ := h2 j hj
  exact ⟨sb, so, x1, x2, y, e, fun V hV => ⟨cell_keep h1 hV, cell_keep h3 hV⟩⟩
set_option maxHeartbeats 2000000 in
theorem beaten30 {w : World} {a : Option Addr} {n c : Nat} {P : Mt} (hn : n ≤ 12) (hs : SQ w a n P) :
    Calls Try.prog 30 #[.slice a n c] w fun e w' => e = .returned (.slice (some ⟨w.heap.size, 0, none⟩) n n) ∧ MX w' w.heap.size n (btM P) ∧ Below w.heap.size w w' := by
  have HS : Hid (SQ w a n P) := hs
  have HZ : Hid (Calls Try.prog 24 #[.int .i64 (n : Int)] w fun e w' => e = .returned (.slice (some ⟨w.heap.size, 0, none⟩) n n) ∧ MX w' w.heap.size n (fun _ _ => 0) ∧ Below w.heap.size w w') := zeros24 hn
  have HB : Hid (∀ W i j, Below w.heap.size w W → i < n → j < n → Calls Try.prog 40 #[.slice a n c, .int .i64 (i : Int), .int .i64 (j : Int)] W fun e w' => e = .returned (.bool (decide (P j i < P i j))) ∧ Below W.heap.size W w') := fun W i j hW hi hj => beats40 (hs.of_below hW) hi hj
  clear hs
  go_enter Try.func30, Try.ntmps30
  go_upto_region 2 with (go_at_call 24; refine (HZ.out).mono ?_; rintro e U ⟨rfl, hM, hB⟩; have M0 : Hid (MX U w.heap.size n (part 0 0 (btM P))) := hM.congr (fun i j hi hj => by simp [part]); have B0 : Hid (Below w.heap.size w U) := hB; clear hM hB HZ)
  obtain ⟨b, hb⟩ : ∃ b, b = w.heap.size := ⟨_, rfl⟩
  rw [← hb]
  have Hb : Hid (b = w.heap.size) := hb
  rw [← hb] at M0
  clear hb
  go_wp2_with fail
  go_loopg [4, 5, 6, 12] n (fun gk v4 v5 v6 v12 wr => ∃ i : Nat, i + gk = n ∧ v12 = .int .i64 (i : Int) ∧ MX wr b n (part i 0 (btM P)) ∧ Below w.heap.size w wr)
  case atStart => exact ⟨0, by omega, rfl, M0.out, B0.out⟩
  case round =>
    obtain ⟨i, hig, rfl, hM, hB⟩ := hrel
    have M : Hid (MX wr b n (part i 0 (btM P))) := hM
    have B : Hid (Below w.heap.size w wr) := hB
    clear hM hB M0 B0
    by_cases hi : i < n
    · have il : (i : Int) < (n : Int) := by omega
      have q0 := M.out.hdr hi
      obtain ⟨G, rfl⟩ : ∃ G, G = gk := ⟨gk, rfl⟩
      go_wp2_with fail
      clear q0
      go_loopg [6, 19] n (fun gk2 v6 v19 wr2 => ∃ j : Nat, j + gk2 = n ∧ v19 = .int .i64 (j : Int) ∧ MX wr2 b n (part i j (btM P)) ∧ Below w.heap.size w wr2)
      case atStart => exact ⟨0, by omega, rfl, M.out, B.out⟩
      case round =>
        obtain ⟨j, hjg, rfl, hM, hB⟩ := hrel
        have M2 : Hid (MX wr b n (part i j (btM P))) := hM
        have B2 : Hid (Below w.heap.size w wr) := hB
        clear hM hB M B
        by_cases hj : j < n
        · have jl : (j : Int) < (n : Int) := by omega
          have hc : Hid (Calls Try.prog 40 #[.slice a n c, .int .i64 (i : Int), .int .i64 (j : Int)] wr fun e w' => e = .returned (.bool (decide (P j i < P i j))) ∧ Below wr.heap.size wr w') := HB.out wr i j B2.out hi hj
          by_cases hp : P j i < P i j
          · rw [decide_eq_true hp] at hc
            have EV : Hid (btM P i j = P i j) := by show _ = _; unfold btM; rw [if_pos hp]
            clear hp
            obtain ⟨sb, so, x1, x2, y1, rfl, kc⟩ := HS.out.two hi hj
            have KC : Hid (∀ V, Below w.heap.size w V → V.cell? ⟨sb, so + i, none⟩ = some (.slice (some ⟨x1, x2, none⟩) n y1) ∧ V.cell? ⟨x1, x2 + j, none⟩ = some (.int .i64 (P i j))) := kc
            clear kc
            go_wp2_with (go_at_call 40; refine (hc.out).mono ?_; rintro e V1 ⟨rfl, hB1⟩; have B3 : Hid (Below w.heap.size w V1) := B2.out.trans (hB1.mono B2.out.size); have M3 : Hid (MX V1 b n (part i j (btM P))) := M2.out.of_below hB1; obtain ⟨k1, k2⟩ := KC.out _ B3.out; have k3 := M3.out.at hi hj; have k4 := M3.out.frz hi j; clear hB1 hc M2 B2)
            have M4 : Hid (MX (V1.setCell ⟨b + 1 + i, j, none⟩ (.int .i64 (P i j))) b n (part i (j + 1) (btM P))) := by
              have q := M3.out.set hi hj (btM P i j)
              rw [part_upd, EV.out] at q
              exact q
            have B4 : Hid (Below w.heap.size w (V1.setCell ⟨b + 1 + i, j, none⟩ (.int .i64 (P i j)))) := B3.out.setCell (by have := Hb.out; show _ ≤ b + 1 + i; omega) _
            clear k1 k2 k3 k4 M3 B3
            generalize (V1.setCell ⟨b + 1 + i, j, none⟩ (.int .i64 (P i j))) = V2 at *
            go_roundg (gk - 1)
            case measure => omega
            case rel => exact ⟨j + 1, by omega, by go_num, M4.out, B4.out⟩
          · rw [decide_eq_false hp] at hc
            have EV : Hid (btM P i j = 0) := by show _ = _; unfold btM; rw [if_neg hp]
            clear hp
            go_wp2_with (go_at_call 40; refine (hc.out).mono ?_; rintro e V1 ⟨rfl, hB1⟩; have B3 : Hid (Below w.heap.size w V1) := B2.out.trans (hB1.mono B2.out.size); have M3 : Hid (MX V1 b n (part i (j + 1) (btM P))) := (by rw [← part_zero _ _ _ EV.out]; exact M2.out.of_below hB1); clear hB1 hc M2 B2)
            go_roundg (gk - 1)
            case measure => omega
            case rel => exact ⟨j + 1, by omega, by go_num, M3.out, B3.out⟩
        · have jl : ¬ (j : Int) < (n : Int) := by omega
          have e : j = n := by omega
          subst e
          have M3 : Hid (MX wr b j (part (i + 1) 0 (btM P))) := M2.out.congr (part_row _)
          go_wp2_with fail
          go_roundg (G - 1)
          case measure => omega
          case rel => exact ⟨i + 1, by omega, by go_num, M3.out, B2.out⟩
    · have il : ¬ (i : Int) < (n : Int) := by omega
      have e : i = n := by omega
      subst e
      go_wp2_with fail
      go_ret
      exact ⟨by rw [Hb.out]; rfl, by rw [← Hb.out]; exact M.out.congr (part_all _), B.out⟩
end Go.Proofs.Ytcdmndcpjememaa
