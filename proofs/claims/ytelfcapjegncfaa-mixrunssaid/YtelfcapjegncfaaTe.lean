/- The law MixRuns, walked. -/
import Derived.Test.YtelfcapjegncfaaTd
import Derived.Laws.StructEq
set_option linter.unusedSimpArgs false
set_option linter.unusedVariables false
set_option maxRecDepth 100000
namespace Go.Proofs.Ytelfcapjegncfaa
open Go.RowKit Go.Deep Go.PlainAid

theorem neq28 (x y : Nat) (W : World) : (binOp .neq 28 (.agg #[.int .i64 (x : Int), .int .i64 (y : Int)]) (.agg #[.int .i64 (x : Int), .int .i64 (y : Int)])).run Try.prog W = .ok (.bool false) W := by
  have u3 := Try.underlying3
  have a3 := Try.isAgg3
  have z3 := Try.sizeOf3
  have hS : Try.prog.underlying 28 = some (.struct (Try.prog.fieldsOf 28)) := by kernel_rfl
  have hp : Try.prog.stoodInHeld 28 = false := by kernel_rfl
  rw [run_neq_struct, show (10000 : Nat) = 9999 + 1 from rfl, run_equalIn_agg W 9999 28 _ _ hS hp]
  simp only [Program.fieldsOf, Try.underlying28]
  go_simp
set_option maxHeartbeats 2000000 in
/-- The law, of what Plan and Run tell on both sides. -/
theorem runs_walk0 {w : World} {z : Int} {ac : Option Addr} {m cc : Nat} {G : List (Nat × Nat)} {L : List Nat} {e1 e2 : Int} (hG : G.length ≤ 4294967296) (hL : L.length ≤ 4294967296)
    (H6 : ∀ V, Below w.heap.size w V → Calls Try.prog 6 #[.int .i64 z] V fun e w' => (∃ a c, e = .returned (.tuple #[.slice a G.length c, .int .i64 e1]) ∧ VL w' a (gvs G)) ∧ Below V.heap.size V w')
    (H7 : ∀ V, Below w.heap.size w V → Calls Try.prog 7 #[.int .i64 z] V fun e w' => (∃ a c, e = .returned (.tuple #[.slice a G.length c, .int .i64 e1]) ∧ VL w' a (gvs G)) ∧ Below V.heap.size V w')
    (H8 : ∀ V, Below w.heap.size w V → Calls Try.prog 8 #[.int .i64 z, .slice ac m cc] V fun e w' => (∃ a c, e = .returned (.tuple #[.slice a L.length c, .int .i64 e2]) ∧ VL w' a (ivs L)) ∧ Below V.heap.size V w')
    (H9 : ∀ V, Below w.heap.size w V → Calls Try.prog 9 #[.int .i64 z, .slice ac m cc] V fun e w' => (∃ a c, e = .returned (.tuple #[.slice a L.length c, .int .i64 e2]) ∧ VL w' a (ivs L)) ∧ Below V.heap.size V w') :
    Calls Try.prog 3 #[.int .i64 z, .slice ac m cc] w fun e w' => e = .returned (.bool true) ∧ Below w.heap.size w w' := by
  have K6 : Hid _ := H6
  have K7 : Hid _ := H7
  have K8 : Hid _ := H8
  have K9 : Hid _ := H9
  have K10 : Hid (∀ V a b c d, VL V a (ivs L) → VL V b (ivs L) → Calls Try.prog 10 #[.slice a L.length c, .slice b L.length d] V fun e w' => e = .returned (.bool true) ∧ Below V.heap.size V w') := fun V a b c d h1 h2 => sameInts10 h1 h2 hL
  have z1 : (e1 != e1) = false := by simp
  have z2 : (e2 == e2) = true := by simp
  have z3 : ((G.length : Int) != (G.length : Int)) = false := by simp
  clear H6 H7 H8 H9
  go_enter Try.func3, Try.ntmps3
  go_wp2_with (first
    | (go_at_call 6; refine (K6.out _ (Below.refl _ w)).mono ?_; rintro e w1 ⟨⟨a1, c1, rfl, hV⟩, hB⟩; have V1 : Hid (VL w1 a1 (gvs G)) := hV; have B1 : Hid (Below w.heap.size w w1) := hB; clear hV hB K6)
    | (go_at_call 7; refine (K7.out _ B1.out).mono ?_; rintro e w2 ⟨⟨a2, c2, rfl, hV⟩, hB⟩; have V2 : Hid (VL w2 a2 (gvs G)) := hV; replace V1 : Hid (VL w2 a1 (gvs G)) := V1.out.of_below hB; have B2 : Hid (Below w.heap.size w w2) := B1.out.trans (hB.mono B1.out.size); clear hV hB K7)
    | fail)
  go_loopg [9, 34] G.length (fun gk v9 v34 wr => ∃ i : Nat, i + gk = G.length ∧ v34 = .int .i64 (i : Int) ∧ Below w2.heap.size w2 wr)
  case atStart => exact ⟨0, by omega, rfl, Below.refl _ _⟩
  case round =>
    obtain ⟨i, hig, rfl, hB⟩ := hrel
    have B : Hid (Below w2.heap.size w2 wr) := hB
    clear hB
    by_cases hi : i < G.length
    · have il : (i : Int) < (G.length : Int) := by omega
      obtain ⟨b1, o1, rfl, q1, q2⟩ := (V1.out.of_below B.out).gate i hi
      obtain ⟨b2, o2, rfl, q3, q4⟩ := (V2.out.of_below B.out).gate i hi
      generalize G[i] = g at *
      obtain ⟨x, y⟩ := g
      dsimp only at q1 q2 q3 q4
      have heq := neq28 x y
      have KS : Hid (wr.cell? ⟨b1, o1 + i * 2, none⟩ = some (.int .i64 (x : Int)) ∧ wr.cell? ⟨b1, o1 + i * 2 + 1, none⟩ = some (.int .i64 (y : Int)) ∧ wr.cell? ⟨b2, o2 + i * 2, none⟩ = some (.int .i64 (x : Int)) ∧ wr.cell? ⟨b2, o2 + i * 2 + 1, none⟩ = some (.int .i64 (y : Int))) := ⟨q1, q2, q3, q4⟩
      have BD : Hid (Below w2.heap.size w2 wr.drew) := B.out.drew
      clear q1 q2 q3 q4
      go_wp2_with fail
      go_region_held3 (fun V => V.cell? ⟨b1, o1 + i * 2, none⟩ = some (.int .i64 (x : Int)) ∧ V.cell? ⟨b1, o1 + i * 2 + 1, none⟩ = some (.int .i64 (y : Int)) ∧ V.cell? ⟨b2, o2 + i * 2, none⟩ = some (.int .i64 (x : Int)) ∧ V.cell? ⟨b2, o2 + i * 2 + 1, none⟩ = some (.int .i64 (y : Int)))
        (first | exact KS.out | assumption | fail)
        (fail)
      go_wp2_with fail
      go_roundg (gk - 1)
      case measure => omega
      case rel => exact ⟨i + 1, by omega, by go_num, BD.out⟩
    · have il : ¬ (i : Int) < (G.length : Int) := by omega
      have B3 : Hid (Below w.heap.size w wr) := B2.out.trans (B.out.mono B2.out.size)
      go_wp2_with (first
        | (go_at_call 8; refine (K8.out _ B3.out).mono ?_; rintro e w4 ⟨⟨a4, c4, rfl, hV⟩, hB⟩; have V4 : Hid (VL w4 a4 (ivs L)) := hV; have B4 : Hid (Below w.heap.size w w4) := B3.out.trans (hB.mono B3.out.size); clear hV hB K8)
        | (go_at_call 9; refine (K9.out _ B4.out).mono ?_; rintro e w5 ⟨⟨a5, c5, rfl, hV⟩, hB⟩; have V5 : Hid (VL w5 a5 (ivs L)) := hV; replace V4 : Hid (VL w5 a4 (ivs L)) := V4.out.of_below hB; have B5 : Hid (Below w.heap.size w w5) := B4.out.trans (hB.mono B4.out.size); clear hV hB K9)
        | (go_at_call 10; refine (K10.out _ _ _ _ _ V4.out V5.out).mono ?_; rintro e w6 ⟨rfl, hB⟩; have B6 : Hid (Below w.heap.size w w6) := B5.out.trans (hB.mono B5.out.size); clear hB K10)
        | fail)
      go_ret
      exact ⟨rfl, B6.out⟩

theorem mixRuns_walk {w : World} (z : Int) {ac : Option Addr} {cc : Nat} {cs : List Bool} (hcs : VL w ac (bvs cs)) : Calls Try.prog 3 #[.int .i64 z, .slice ac cs.length cc] w fun e w' => e = .returned (.bool true) ∧ Below w.heap.size w w' := by
  by_cases h : z < 1 ∨ 256 < z
  · refine runs_walk0 (G := []) (L := []) (e1 := 4) (e2 := 4) (by simp) (by simp) (fun V hV => ?_) (fun V hV => ?_) (fun V hV => ?_) (fun V hV => ?_)
    · exact (plan6_no V z h).mono fun e w' ⟨h1, h2⟩ => ⟨⟨none, 0, h1, VL.nil _ _⟩, by rw [h2]; exact Below.refl _ _⟩
    · exact (plan7_no V z h).mono fun e w' ⟨h1, h2⟩ => ⟨⟨none, 0, h1, VL.nil _ _⟩, by rw [h2]; exact Below.refl _ _⟩
    · exact (run8_no V z h ac cs.length cc).mono fun e w' ⟨h1, h2⟩ => ⟨⟨none, 0, h1, VL.nil _ _⟩, h2⟩
    · exact (run9_no V z h ac cs.length cc).mono fun e w' ⟨h1, h2⟩ => ⟨⟨none, 0, h1, VL.nil _ _⟩, h2⟩
  · obtain ⟨n, rfl⟩ := Int.eq_ofNat_of_zero_le (show 0 ≤ z by omega)
    have h1 : 1 ≤ n := by omega
    have hn : n ≤ 256 := by omega
    have hl := net_le hn
    have p6 : ∀ V, Below w.heap.size w V → Calls Try.prog 6 #[.int .i64 (n : Int)] V fun e w' => (∃ a c, e = .returned (.tuple #[.slice a (net n).length c, .int .i64 0]) ∧ VL w' a (gvs (net n))) ∧ Below V.heap.size V w' := fun V hV => (plan6_yes V n h1 hn).mono fun e w' ⟨⟨v, hv, ho⟩, hb⟩ => by
      obtain ⟨a, c, rfl, hvl, _⟩ := own_vl ho
      exact ⟨⟨a, c, hv, hvl⟩, hb⟩
    have p7 : ∀ V, Below w.heap.size w V → Calls Try.prog 7 #[.int .i64 (n : Int)] V fun e w' => (∃ a c, e = .returned (.tuple #[.slice a (net n).length c, .int .i64 0]) ∧ VL w' a (gvs (net n))) ∧ Below V.heap.size V w' := fun V hV => (plan7_yes V n h1 hn).mono fun e w' ⟨⟨v, hv, ho⟩, hb⟩ => by
      obtain ⟨a, c, rfl, hvl, _⟩ := own_vl ho
      exact ⟨⟨a, c, hv, hvl⟩, hb⟩
    by_cases hm : cs.length = (net n).length
    · have hrl : (runP (net n) cs (List.range n)).length = n := by rw [runP_len, List.length_range]
      refine runs_walk0 (G := net n) (L := runP (net n) cs (List.range n)) (e1 := 0) (e2 := 0) (by omega) (by omega) p6 p7 (fun V hV => ?_) (fun V hV => ?_)
      · refine (run8_yes h1 hn (hcs.of_below hV) hm).mono fun e w' ⟨⟨v, hv, ho⟩, hb⟩ => ?_
        obtain ⟨a, c, rfl, hvl, _⟩ := own_vl ho
        exact ⟨⟨a, c, by rw [hrl]; exact hv, hvl⟩, hb⟩
      · refine (run9_yes h1 hn (hcs.of_below hV) hm).mono fun e w' ⟨⟨v, hv, ho⟩, hb⟩ => ?_
        obtain ⟨a, c, rfl, hvl, _⟩ := own_vl ho
        exact ⟨⟨a, c, by rw [hrl]; exact hv, hvl⟩, hb⟩
    · refine runs_walk0 (G := net n) (L := []) (e1 := 0) (e2 := 2) (by omega) (by simp) p6 p7 (fun V hV => ?_) (fun V hV => ?_)
      · exact (run8_form V n h1 hn ac cs.length cc hm).mono fun e w' ⟨h1, h2⟩ => ⟨⟨none, 0, h1, VL.nil _ _⟩, h2⟩
      · exact (run9_form V n h1 hn ac cs.length cc hm).mono fun e w' ⟨h1, h2⟩ => ⟨⟨none, 0, h1, VL.nil _ _⟩, h2⟩
end Go.Proofs.Ytelfcapjegncfaa
