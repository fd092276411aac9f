/- Run of the document. -/
import Derived.Test.YtelfcapjegncfaaTc
set_option linter.unusedSimpArgs false
set_option linter.unusedVariables false
set_option maxRecDepth 100000
namespace Go.Proofs.Ytelfcapjegncfaa
open Go.RowKit Go.Deep Go.PlainAid

set_option maxHeartbeats 1000000 in
theorem run9_no (w : World) (z : Int) (h : z < 1 ∨ 256 < z) (ac : Option Addr) (m cc : Nat) : Calls Try.prog 9 #[.int .i64 z, .slice ac m cc] w fun e w' => e = .returned (.tuple #[.slice none 0 0, .int .i64 4]) ∧ Below w.heap.size w w' := by
  have H7 : Hid (∀ V, Calls Try.prog 7 #[.int .i64 z] V fun e w' => e = .returned (.tuple #[.slice none 0 0, .int .i64 4]) ∧ w' = V) := fun V => plan7_no V z h
  clear h
  go_enter Try.func9, Try.ntmps9
  go_wp2_with (go_at_call 7; refine (H7.out _).mono ?_; rintro e ww ⟨rfl, hww⟩; obtain rfl := hww.symm; clear H7)
  go_ret2
  exact ⟨rfl, Below.refl _ _⟩
set_option maxHeartbeats 1000000 in
theorem run9_form (w : World) (n : Nat) (h1 : 1 ≤ n) (hn : n ≤ 256) (ac : Option Addr) (m cc : Nat) (hm : m ≠ (net n).length) : Calls Try.prog 9 #[.int .i64 (n : Int), .slice ac m cc] w fun e w' => e = .returned (.tuple #[.slice none 0 0, .int .i64 2]) ∧ Below w.heap.size w w' := by
  have H7 : Hid (∀ V, Calls Try.prog 7 #[.int .i64 (n : Int)] V fun e w' => (∃ v, e = .returned (.tuple #[v, .int .i64 0]) ∧ w'.ownsRow V.heap.size 28 2 v (net n).length (gvs (net n))) ∧ Below V.heap.size V w') := fun V => plan7_yes V n h1 hn
  have e3 : (((net n).length : Int) != (m : Int)) = true := by simp [bne]; omega
  go_enter Try.func9, Try.ntmps9
  go_wp2_with (go_at_call 7; refine (H7.out _).mono ?_; rintro e w2 ⟨⟨v, rfl, hO⟩, hB⟩; obtain ⟨ag, cg, rfl, _, _⟩ := own_vl hO; have B2 : Hid (Below w.heap.size w w2) := hB; clear hO hB H7)
  go_ret2
  exact ⟨rfl, B2.out⟩
set_option maxHeartbeats 4000000 in
theorem run9_yes {w : World} {n : Nat} (h1 : 1 ≤ n) (hn : n ≤ 256) {ac : Option Addr} {cc : Nat} {cs : List Bool} (hcs : VL w ac (bvs cs)) (hm : cs.length = (net n).length) : Calls Try.prog 9 #[.int .i64 (n : Int), .slice ac cs.length cc] w fun e w' => (∃ v, e = .returned (.tuple #[v, .int .i64 0]) ∧ w'.ownsRow w.heap.size 3 1 v n (ivs (runP (net n) cs (List.range n)))) ∧ Below w.heap.size w w' := by
  have H7 : Hid (∀ V, Calls Try.prog 7 #[.int .i64 (n : Int)] V fun e w' => (∃ v, e = .returned (.tuple #[v, .int .i64 0]) ∧ w'.ownsRow V.heap.size 28 2 v (net n).length (gvs (net n))) ∧ Below V.heap.size V w') := fun V => plan7_yes V n h1 hn
  have H15 : Hid (∀ V, Calls Try.prog 15 #[.int .i64 (n : Int)] V fun e w' => (∃ v, e = .returned v ∧ w'.ownsRow V.heap.size 3 1 v n (ivs (List.range n))) ∧ Below V.heap.size V w') := fun V => upTo15 V n hn
  have e3 : (((net n).length : Int) != (cs.length : Int)) = false := by simp [bne]; omega
  have HCS : Hid (VL w ac (bvs cs)) := hcs
  have HCL : Hid (cs.length = (net n).length) := hm
  have HLT : Hid (∀ i (hi : i < (net n).length), (net n)[i].1 < n ∧ (net n)[i].2 < n) := fun i hi => net_lt _ (List.getElem_mem hi)
  have hnl : (net n).length ≤ 4096 := net_le hn
  clear hcs hm
  go_enter Try.func9, Try.ntmps9
  go_wp2_with (first
    | (go_at_call 7; refine (H7.out _).mono ?_; rintro e w2 ⟨⟨v, rfl, hO⟩, hB⟩; obtain ⟨ag, cg, rfl, hV, _⟩ := own_vl hO; have V2 : Hid (VL w2 ag (gvs (net n))) := hV; have B2 : Hid (Below w.heap.size w w2) := hB; clear hO hB hV H7)
    | (go_at_call 15; refine (H15.out _).mono ?_; rintro e w3 ⟨⟨v3, rfl, hO⟩, hB⟩; obtain ⟨g, cap, rfl, hg1, hg2⟩ := hO.form h1; have O3 : Hid (w3.ownsRow w2.heap.size 3 1 (.slice (some ⟨g, 0, none⟩) n cap) n (ivs (List.range n))) := hO; have V3 : Hid (VL w3 ag (gvs (net n))) := V2.out.of_below hB; have B3 : Hid (Below w2.heap.size w2 w3) := hB; clear hO hB)
    | fail)
  have HC2 : Hid (VL w2 ac (bvs cs)) := HCS.out.of_below B2.out
  generalize hgs : net n = gs at *
  have HGS : Hid (net n = gs) := hgs
  clear hgs
  go_loopg [9, 10, 11, 12, 30] gs.length (fun gk v9 v10 v11 v12 v30 wr => ∃ i : Nat, i + gk = gs.length ∧ v30 = .int .i64 (i : Int) ∧ wr.ownsRow w2.heap.size 3 1 (.slice (some ⟨g, 0, none⟩) n cap) n (ivs (runP (gs.take i) (cs.take i) (List.range n))) ∧ Below w2.heap.size w2 wr)
  case atStart => exact ⟨0, by omega, rfl, by simpa [runP] using O3.out, B3.out⟩
  case round =>
    obtain ⟨i, hig, rfl, hO, hB⟩ := hrel
    have O : Hid (wr.ownsRow w2.heap.size 3 1 (.slice (some ⟨g, 0, none⟩) n cap) n (ivs (runP (gs.take i) (cs.take i) (List.range n)))) := hO
    have B : Hid (Below w2.heap.size w2 wr) := hB
    clear hO hB O3 V3
    by_cases hi : i < gs.length
    · have il : (i : Int) < (gs.length : Int) := by omega
      have hic : i < cs.length := by have := HCL.out; omega
      have ilc : (i : Int) < (cs.length : Int) := by omega
      obtain ⟨bG, oG, rfl, q1, q2⟩ := (V2.out.of_below B.out).gate i hi
      obtain ⟨hX, hY⟩ := HLT.out i hi
      have RN : Hid (runP (gs.take (i + 1)) (cs.take (i + 1)) (List.range n) = swp (runP (gs.take i) (cs.take i) (List.range n)) gs[i] (cs.getD i false)) := runP_take hi hic
      obtain ⟨bC, oC, rfl, q3⟩ := HC2.out.bool i hic
      have hbC : bC < w2.heap.size := cell_lt q3
      have ec : cs.getD i false = cs[i] := by simp [List.getD_eq_getElem?_getD, hic]
      rw [ec] at RN
      clear ec
      generalize cs[i] = tc at *
      generalize gs[i] = gt at *
      obtain ⟨X, Y⟩ := gt
      dsimp only at q1 q2 hX hY
      have hgw : g < wr.heap.size := (O.out.lt g rfl).2
      have cX := row_at O.out hX
      have cY := row_at O.out hY
      have HLL : Hid ((runP (gs.take i) (cs.take i) (List.range n)).length = n) := by show _ = _; rw [runP_len, List.length_range]
      generalize runP (gs.take i) (cs.take i) (List.range n) = L at *
      have hXn : (X : Int) < (n : Int) := by omega
      have hYn : (Y : Int) < (n : Int) := by omega
      obtain ⟨U, hU⟩ : ∃ U, U = wr.alloc (.cells #[.int .i64 (X : Int), .int .i64 (Y : Int)] 28) := ⟨_, rfl⟩
      have BU : Hid (Below wr.heap.size wr U) := by rw [hU]; exact (Below.refl _ _).alloc (Nat.le_refl _) _
      have IU : Hid (IHolds U wr.heap.size 28 [.int .i64 (X : Int), .int .i64 (Y : Int)]) := by rw [hU]; exact IHolds.new _ _ _
      have OU : Hid (U.ownsRow w2.heap.size 3 1 (.slice (some ⟨g, 0, none⟩) n cap) n (ivs L)) := own_below O.out BU.out
      have BW : Hid (Below w2.heap.size w2 U) := B.out.trans (BU.out.mono B.out.size)
      go_upto_region 10 with fail
      rw [← hU]
      have c3 : U.cell? ⟨bC, oC + i, none⟩ = some (.bool tc) := (BW.out.cell (p := ⟨bC, oC + i, none⟩) hbC).trans q3
      have k0 : U.cell? ⟨wr.heap.size, 0, none⟩ = some (.int .i64 (X : Int)) := IU.out.cell 0 (by simp)
      have k1 : U.cell? ⟨wr.heap.size, 1, none⟩ = some (.int .i64 (Y : Int)) := IU.out.cell 1 (by simp)
      have kX : U.cell? ⟨g, X, none⟩ = some (.int .i64 (L.getD X 0 : Int)) := row_at OU.out hX
      have kY : U.cell? ⟨g, Y, none⟩ = some (.int .i64 (L.getD Y 0 : Int)) := row_at OU.out hY
      clear hU q1 q2 q3 cX cY
      cases tc with
      | false =>
        have SF : Hid (swp L (X, Y) false = L) := swp_false (by rw [HLL.out]; exact hX) (by rw [HLL.out]; exact hY)
        go_wp2_with fail
        go_roundg (gk - 1)
        case measure => omega
        case rel => exact ⟨i + 1, by omega, by go_num, by rw [RN.out, SF.out]; exact OU.out, BW.out⟩
      | true =>
        have SW : Hid (ivs (swp L (X, Y) true) = ((ivs L).set X (.int .i64 (L.getD Y 0 : Int))).set Y (.int .i64 (L.getD X 0 : Int))) := by
          show _ = _
          rw [ivs_set, ivs_set]
          rfl
        have ng : wr.heap.size ≠ g := by omega
        have O1 : Hid ((U.setCell ⟨g, X, none⟩ (.int .i64 (L.getD Y 0 : Int))).ownsRow w2.heap.size 3 1 (.slice (some ⟨g, 0, none⟩) n cap) n ((ivs L).set X (.int .i64 (L.getD Y 0 : Int)))) := (OU.out.stored X _).1
        have O2 : Hid (((U.setCell ⟨g, X, none⟩ (.int .i64 (L.getD Y 0 : Int))).setCell ⟨g, Y, none⟩ (.int .i64 (L.getD X 0 : Int))).ownsRow w2.heap.size 3 1 (.slice (some ⟨g, 0, none⟩) n cap) n (((ivs L).set X (.int .i64 (L.getD Y 0 : Int))).set Y (.int .i64 (L.getD X 0 : Int)))) := (O1.out.stored Y _).1
        have fX : U.frozen? ⟨g, X, none⟩ = false := OU.out.frozenAt X
        have e1 := O1.out
        rw [ivs_set] at e1
        have cY : (U.setCell ⟨g, X, none⟩ (.int .i64 (L.getD Y 0 : Int))).cell? ⟨g, Y, none⟩ = some (.int .i64 ((L.set X (L.getD Y 0)).getD Y 0 : Int)) := row_at e1 hY
        have fY : (U.setCell ⟨g, X, none⟩ (.int .i64 (L.getD Y 0 : Int))).frozen? ⟨g, Y, none⟩ = false := O1.out.frozenAt Y
        have k2 : (U.setCell ⟨g, X, none⟩ (.int .i64 (L.getD Y 0 : Int))).cell? ⟨wr.heap.size, 1, none⟩ = some (.int .i64 (Y : Int)) := (IU.out.set_far ng _).cell 1 (by simp)
        have BF : Hid (Below w2.heap.size w2 ((U.setCell ⟨g, X, none⟩ (.int .i64 (L.getD Y 0 : Int))).setCell ⟨g, Y, none⟩ (.int .i64 (L.getD X 0 : Int))).drew) := ((BW.out.setCell (p := ⟨g, X, none⟩) hg1 _).setCell (p := ⟨g, Y, none⟩) hg1 _).drew
        clear e1
        generalize (L.set X (L.getD Y 0)).getD Y 0 = oY at *
        generalize L.getD X 0 = x at *
        generalize L.getD Y 0 = y at *
        have KS : Hid (U.cell? ⟨wr.heap.size, 0, none⟩ = some (.int .i64 (X : Int)) ∧ U.cell? ⟨wr.heap.size, 1, none⟩ = some (.int .i64 (Y : Int)) ∧ U.cell? ⟨g, X, none⟩ = some (.int .i64 (x : Int)) ∧ U.cell? ⟨g, Y, none⟩ = some (.int .i64 (y : Int))) := ⟨k0, k1, kX, kY⟩
        go_wp2_with fail
        go_region_held3 (fun V => V.cell? ⟨wr.heap.size, 0, none⟩ = some (.int .i64 (X : Int)) ∧ V.cell? ⟨wr.heap.size, 1, none⟩ = some (.int .i64 (Y : Int)) ∧ V.cell? ⟨g, X, none⟩ = some (.int .i64 (x : Int)) ∧ V.cell? ⟨g, Y, none⟩ = some (.int .i64 (y : Int)))
          (first | exact KS.out | assumption | fail)
          (fail)
        go_wp2_with fail
        go_roundg (gk - 1)
        case measure => omega
        case rel => exact ⟨i + 1, by omega, by go_num, by rw [RN.out, SW.out]; exact O2.out, BF.out⟩
    · have il : ¬ (i : Int) < (gs.length : Int) := by omega
      have O2 : Hid (wr.ownsRow w.heap.size 3 1 (.slice (some ⟨g, 0, none⟩) n cap) n (ivs (runP gs cs (List.range n)))) := by
        have q := O.out
        rw [List.take_of_length_le (by omega), List.take_of_length_le (by have := HCL.out; omega)] at q
        exact own_mono q B2.out.size
      go_wp2_with fail
      go_ret2
      exact ⟨⟨_, rfl, by rw [HGS.out]; exact O2.out⟩, B2.out.trans (B.out.mono B2.out.size)⟩
set_option maxHeartbeats 1000000 in
theorem sameInts10 {w : World} {a b : Option Addr} {c d : Nat} {l : List Nat} (ha : VL w a (ivs l)) (hb : VL w b (ivs l)) (hl : l.length ≤ 4294967296) : Calls Try.prog 10 #[.slice a l.length c, .slice b l.length d] w fun e w' => e = .returned (.bool true) ∧ Below w.heap.size w w' := by
  have HA : Hid (VL w a (ivs l)) := ha
  have HB : Hid (VL w b (ivs l)) := hb
  clear ha hb
  go_enter Try.func10, Try.ntmps10
  go_wp2_with fail
  go_loopg [5, 13] l.length (fun gk v5 v13 wr => ∃ i : Nat, i + gk = l.length ∧ v13 = .int .i64 (i : Int) ∧ Below w.heap.size w wr)
  case atStart => exact ⟨0, by omega, rfl, Below.refl _ _⟩
  case round =>
    obtain ⟨i, hig, rfl, hB⟩ := hrel
    have B : Hid (Below w.heap.size w wr) := hB
    clear hB
    by_cases hi : i < l.length
    · have il : (i : Int) < (l.length : Int) := by omega
      obtain ⟨b1, o1, rfl, q1⟩ := (HA.out.of_below B.out).int i hi
      obtain ⟨b2, o2, rfl, q2⟩ := (HB.out.of_below B.out).int i hi
      generalize l[i] = x at *
      have KS : Hid (wr.cell? ⟨b1, o1 + i, none⟩ = some (.int .i64 (x : Int)) ∧ wr.cell? ⟨b2, o2 + i, none⟩ = some (.int .i64 (x : Int))) := ⟨q1, q2⟩
      have BD : Hid (Below w.heap.size w wr.drew) := B.out.drew
      clear q1 q2
      go_wp2_with fail
      go_region_held3 (fun V => V.cell? ⟨b1, o1 + i, none⟩ = some (.int .i64 (x : Int)) ∧ V.cell? ⟨b2, o2 + i, none⟩ = some (.int .i64 (x : Int)))
        (first | exact KS.out | assumption | fail)
        (fail)
      go_wp2_with fail
      go_roundg (gk - 1)
      case measure => omega
      case rel => exact ⟨i + 1, by omega, by go_num, BD.out⟩
    · have il : ¬ (i : Int) < (l.length : Int) := by omega
      go_wp2_with fail
      go_ret
      exact ⟨rfl, B.out⟩
end Go.Proofs.Ytelfcapjegncfaa
