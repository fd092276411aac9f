/- What the document's Wrong tells of claims. -/
import Derived.Test.YtfbceknafmkipaaGreatDb
import Derived.Test.YtfbceknafmkipaaGreatRg
set_option linter.unusedSimpArgs false
set_option linter.unusedVariables false
set_option maxRecDepth 100000
namespace Go.Proofs.YtfbceknafmkipaaGreat
open Go.RowKit Go.Deep Go.PlainAid

/-- What is wrong with claims. -/
def wrC (p : ByteArray → Bool) (l : List Cl) : Int := if (decide (64 < l.length) || l.any tooL) = true then 3 else if (decide (l.length = 0) || l.any unev) = true then 2 else if l.any (stra p) = true then 7 else 0
theorem tooL_eq (t : Cl) : tooL t = (decide (8 < t.1.length) || decide (8 < t.2.length)) := rfl
theorem unev_eq (t : Cl) : unev t = (decide (t.1.length = 0) || decide (t.2.length ≠ t.1.length)) := rfl
set_option maxHeartbeats 4000000 in
theorem refWrong17 {w : World} {a qa pa : Option Addr} {l : List Cl} {c ql qc pl pc : Nat} {S : Int} (p : ByteArray → Bool) (hl : l.length ≤ 9223372036854775807) (hll : ∀ i (h : i < l.length), (l[i]).1.length ≤ 9223372036854775807) (hs : CM w a l)
    (CE : ∀ s W, Below w.heap.size w W → Calls Tryz.prog 37 #[.agg #[.int .i64 S, .slice qa ql qc, .slice pa pl pc], .string s] W fun e w' => e = .returned (.bool (p s)) ∧ Below W.heap.size W w') :
    Calls Tryz.prog 17 #[.agg #[.int .i64 S, .slice qa ql qc, .slice pa pl pc], .slice a l.length c] w fun e w' => e = .returned (.int .i64 (wrC p l)) ∧ Below w.heap.size w w' := by
  generalize hW : w.alloc (.cells #[.int .i64 S, .slice qa ql qc, .slice pa pl pc] 48) = W
  have J : Hid (Below w.heap.size w W) := by rw [← hW]; exact (Below.refl _ w).alloc (Nat.le_refl _) _
  have I0 : Hid (IHolds W w.heap.size 48 [.int .i64 S, .slice qa ql qc, .slice pa pl pc]) := by rw [← hW]; exact IHolds.new' w 48 [.int .i64 S, .slice qa ql qc, .slice pa pl pc] rfl
  have HS : Hid (CM W a l) := hs.of_below J.out
  have HC : Hid (∀ s W, Below w.heap.size w W → Calls Tryz.prog 37 #[.agg #[.int .i64 S, .slice qa ql qc, .slice pa pl pc], .string s] W fun e w' => e = .returned (.bool (p s)) ∧ Below W.heap.size W w') := CE
  have HL2 : Hid (∀ i (h : i < l.length), (l[i]).1.length ≤ 9223372036854775807) := hll
  obtain ⟨cz, hcz⟩ : ∃ cz : Int, cz = wrC p l := ⟨_, rfl⟩
  rw [← hcz]
  have C3 : Hid ((decide (64 < l.length) || l.any tooL) = true → cz = 3) := fun h => by rw [hcz, wrC, if_pos h]
  have C2 : Hid ((decide (64 < l.length) || l.any tooL) = false → (decide (l.length = 0) || l.any unev) = true → cz = 2) := fun h h2 => by rw [hcz, wrC, h, if_neg (by decide), if_pos h2]
  have C7 : Hid ((decide (64 < l.length) || l.any tooL) = false → (decide (l.length = 0) || l.any unev) = false → l.any (stra p) = true → cz = 7) := fun h h2 h3 => by rw [hcz, wrC, h, if_neg (by decide), h2, if_neg (by decide), if_pos h3]
  have C0 : Hid ((decide (64 < l.length) || l.any tooL) = false → (decide (l.length = 0) || l.any unev) = false → l.any (stra p) = false → cz = 0) := fun h h2 h3 => by rw [hcz, wrC, h, if_neg (by decide), h2, if_neg (by decide), h3, if_neg (by decide)]
  clear hs hcz CE hll
  by_cases h64 : 64 < l.length
  · have k1 : (64 : Int) < (l.length : Int) := by omega
    have e3 : Hid (cz = 3) := C3.out (by simp [h64])
    clear h64
    go_enter Tryz.func17, Tryz.ntmps17
    go_wp2_with fail
    go_ret
    exact ⟨by rw [e3.out]; rfl, J.out⟩
  have k1 : ¬ (64 : Int) < (l.length : Int) := by omega
  have D64 : Hid (decide (64 < l.length) = false) := decide_eq_false h64
  clear h64
  go_enter Tryz.func17, Tryz.ntmps17
  go_wp2_with fail
  clear hW
  go_loopg [6, 17] l.length (fun gk v6 v17 wr => ∃ i : Nat, i + gk = l.length ∧ v17 = .int .i64 (i : Int) ∧ Below W.heap.size W wr ∧ (l.take i).any tooL = false)
  case atStart => exact ⟨0, by omega, rfl, Below.refl _ _, by simp⟩
  case round =>
    obtain ⟨i, hig, rfl, hB, hn⟩ := hrel
    have B : Hid (Below W.heap.size W wr) := hB
    have HN : Hid ((l.take i).any tooL = false) := hn
    clear hB hn
    by_cases hi : i < l.length
    · obtain ⟨b, o, a1, c1, a2, c2, rfl, h1, h2, h3, h4⟩ := HS.out.of_below B.out i hi
      have il : (i : Int) < (l.length : Int) := by omega
      have HT : Hid _ := any_take tooL hi
      have HO : Hid _ := any_of tooL hi
      have HQ : Hid _ := tooL_eq l[i]
      clear h3 h4
      generalize l[i] = t at *
      generalize t.1.length = n1 at *
      generalize t.2.length = n2 at *
      have BU : Hid (Below W.heap.size W (wr.alloc (.cells #[.slice a1 n1 c1, .slice a2 n2 c2] 72))) := B.out.alloc B.out.size _
      by_cases j1 : 8 < n1
      · have k8 : (8 : Int) < (n1 : Int) := by omega
        have e3 : Hid (cz = 3) := C3.out (by rw [HO.out (by rw [HQ.out]; simp [j1])]; simp)
        clear j1
        go_wp2_with fail
        go_ret
        exact ⟨by rw [e3.out]; rfl, J.out.trans (BU.out.mono J.out.size)⟩
      have k8 : ¬ (8 : Int) < (n1 : Int) := by omega
      by_cases j2 : 8 < n2
      · have k9 : (8 : Int) < (n2 : Int) := by omega
        have e3 : Hid (cz = 3) := C3.out (by rw [HO.out (by rw [HQ.out]; simp [j2])]; simp)
        clear j1 j2
        go_wp2_with fail
        go_ret
        exact ⟨by rw [e3.out]; rfl, J.out.trans (BU.out.mono J.out.size)⟩
      have k9 : ¬ (8 : Int) < (n2 : Int) := by omega
      have HF : Hid (tooL t = false) := by show _ = _; rw [HQ.out]; simp [j1, j2]
      clear j1 j2
      go_wp2_with fail
      go_roundg (gk - 1)
      case measure => omega
      case rel => exact ⟨i + 1, by omega, by go_num, BU.out, by rw [HT.out, HN.out, HF.out]; rfl⟩
    have il : ¬ (i : Int) < (l.length : Int) := by omega
    have A1 : Hid ((decide (64 < l.length) || l.any tooL) = false) := by have h := HN.out; rw [List.take_of_length_le (by omega)] at h; show _ = _; rw [D64.out, h]; rfl
    clear HN C3
    obtain ⟨V, rfl⟩ : ∃ V, V = wr := ⟨_, rfl⟩
    obtain ⟨G1, rfl⟩ : ∃ G1, G1 = gk := ⟨_, rfl⟩
    obtain ⟨i1, rfl⟩ : ∃ i1, i1 = i := ⟨_, rfl⟩
    have JV : Hid (Below w.heap.size w V) := J.out.trans (B.out.mono J.out.size)
    have HSV : Hid (CM V a l) := HS.out.of_below B.out
    have I0V : Hid (IHolds V w.heap.size 48 [.int .i64 S, .slice qa ql qc, .slice pa pl pc]) := I0.out.of_below B.out
    by_cases h0 : l.length = 0
    · have k2 : ((l.length : Int) == 0) = true := by simp [h0]
      have e3 : Hid (cz = 2) := C2.out A1.out (by simp [h0])
      clear h0
      go_wp2_with fail
      go_ret
      exact ⟨by rw [e3.out]; rfl, JV.out⟩
    have k2 : ((l.length : Int) == 0) = false := beq_eq_false_iff_ne.2 (by omega)
    have D0 : Hid (decide (l.length = 0) = false) := decide_eq_false h0
    clear h0
    go_wp2_with fail
    go_loopg [8, 37] l.length (fun gk v8 v37 wr => ∃ i : Nat, i + gk = l.length ∧ v37 = .int .i64 (i : Int) ∧ Below V.heap.size V wr ∧ (l.take i).any unev = false)
    case atStart => exact ⟨0, by omega, rfl, Below.refl _ _, by simp⟩
    case round =>
      obtain ⟨i, hig2, rfl, hB2, hn⟩ := hrel
      have B2 : Hid (Below V.heap.size V wr) := hB2
      have HN : Hid ((l.take i).any unev = false) := hn
      clear hB2 hn
      by_cases hi : i < l.length
      · obtain ⟨b, o, a1, c1, a2, c2, rfl, h1, h2, h3, h4⟩ := HSV.out.of_below B2.out i hi
        have il2 : (i : Int) < (l.length : Int) := by omega
        have HT : Hid _ := any_take unev hi
        have HO : Hid _ := any_of unev hi
        have HQ : Hid _ := unev_eq l[i]
        clear h3 h4
        generalize l[i] = t at *
        generalize t.1.length = n1 at *
        generalize t.2.length = n2 at *
        have BU : Hid (Below V.heap.size V (wr.alloc (.cells #[.slice a1 n1 c1, .slice a2 n2 c2] 72))) := B2.out.alloc B2.out.size _
        by_cases j1 : n1 = 0
        · have k8 : ((n1 : Int) == 0) = true := by simp [j1]
          have e3 : Hid (cz = 2) := C2.out A1.out (by rw [HO.out (by rw [HQ.out]; simp [j1])]; simp)
          clear j1
          go_wp2_with fail
          go_ret
          exact ⟨by rw [e3.out]; rfl, JV.out.trans (BU.out.mono JV.out.size)⟩
        have k8 : ((n1 : Int) == 0) = false := beq_eq_false_iff_ne.2 (by omega)
        by_cases j2 : n2 = n1
        case neg =>
          have k9 : ((n1 : Int) != (n2 : Int)) = true := bne_iff_ne.2 (by omega)
          have e3 : Hid (cz = 2) := C2.out A1.out (by rw [HO.out (by rw [HQ.out]; simp [j2])]; simp)
          clear j1 j2
          go_wp2_with fail
          go_ret
          exact ⟨by rw [e3.out]; rfl, JV.out.trans (BU.out.mono JV.out.size)⟩
        have k9 : ((n1 : Int) != (n2 : Int)) = false := by simp [j2]
        have HF : Hid (unev t = false) := by show _ = _; rw [HQ.out]; simp [j1, j2]
        clear j1 j2
        go_wp2_with fail
        go_roundg (gk - 1)
        case measure => omega
        case rel => exact ⟨i + 1, by omega, by go_num, BU.out, by rw [HT.out, HN.out, HF.out]; rfl⟩
      have il2 : ¬ (i : Int) < (l.length : Int) := by omega
      have HU : Hid (l.any unev = false) := by have h := HN.out; rw [List.take_of_length_le (by omega)] at h; exact h
      have A2 : Hid ((decide (l.length = 0) || l.any unev) = false) := by show _ = _; rw [D0.out, HU.out]; rfl
      clear HN C2
      obtain ⟨V2, rfl⟩ : ∃ V2, V2 = wr := ⟨_, rfl⟩
      obtain ⟨G2, rfl⟩ : ∃ G2, G2 = gk := ⟨_, rfl⟩
      obtain ⟨i2, rfl⟩ : ∃ i2, i2 = i := ⟨_, rfl⟩
      have JV2 : Hid (Below w.heap.size w V2) := JV.out.trans (B2.out.mono JV.out.size)
      have HSV2 : Hid (CM V2 a l) := HSV.out.of_below B2.out
      have I0V2 : Hid (IHolds V2 w.heap.size 48 [.int .i64 S, .slice qa ql qc, .slice pa pl pc]) := I0V.out.of_below B2.out
      go_wp2_with fail
      go_loopg [10, 11, 57] l.length (fun gk v10 v11 v57 wr => ∃ i : Nat, i + gk = l.length ∧ v57 = .int .i64 (i : Int) ∧ Below V2.heap.size V2 wr ∧ (l.take i).any (stra p) = false)
      case atStart => exact ⟨0, by omega, rfl, Below.refl _ _, by simp⟩
      case round =>
        obtain ⟨i, hig3, rfl, hB3, hn⟩ := hrel
        have B3 : Hid (Below V2.heap.size V2 wr) := hB3
        have HN : Hid ((l.take i).any (stra p) = false) := hn
        clear hB3 hn
        by_cases hi : i < l.length
        · obtain ⟨b, o, a1, c1, a2, c2, rfl, h1, h2, h3, h4⟩ := HSV2.out.of_below B3.out i hi
          have il3 : (i : Int) < (l.length : Int) := by omega
          have HT : Hid _ := any_take (stra p) hi
          have HO : Hid _ := any_of (stra p) hi
          have HE : Hid ((l[i]).2.length = (l[i]).1.length) := by
            have h := List.any_eq_false.1 HU.out l[i] (List.getElem_mem hi)
            by_cases e : (l[i]).2.length = (l[i]).1.length
            · exact e
            · exact absurd (by simp [unev, e]) h
          have HL1 : Hid ((l[i]).1.length ≤ 9223372036854775807) := HL2.out i hi
          have S1 : Hid (SL wr a1 (l[i]).1) := h3
          have S2 : Hid (SL wr a2 (l[i]).2) := h4
          clear h3 h4
          rw [HE.out] at h2
          generalize l[i] = t at *
          obtain ⟨n1, hn1⟩ : ∃ n1, n1 = t.1.length := ⟨_, rfl⟩
          rw [← hn1] at h1 h2
          have HN1 : Hid (t.1.length = n1) := hn1.symm
          have HN2 : Hid (t.2.length = n1) := HE.out.trans hn1.symm
          have h63 : n1 ≤ 9223372036854775807 := by rw [hn1]; exact HL1.out
          clear hn1 HE HL1
          obtain ⟨hz, hhz⟩ : ∃ hz, hz = wr.heap.size := ⟨_, rfl⟩
          obtain ⟨W0, hW0⟩ : ∃ W0, W0 = wr.alloc (.cells #[.slice a1 n1 c1, .slice a2 n1 c2] 72) := ⟨_, rfl⟩
          have BU : Hid (Below wr.heap.size wr W0) := by rw [hW0]; exact (Below.refl _ wr).alloc (Nat.le_refl _) _
          have IC : Hid (IHolds W0 hz 72 [.slice a1 n1 c1, .slice a2 n1 c2]) := by rw [hW0, hhz]; exact IHolds.new wr 72 [_, _]
          have JW0 : Hid (Below w.heap.size w W0) := JV2.out.trans ((B3.out.trans (BU.out.mono B3.out.size)).mono JV2.out.size)
          have BV0 : Hid (Below V2.heap.size V2 W0) := B3.out.trans (BU.out.mono B3.out.size)
          have I00 : Hid (IHolds W0 w.heap.size 48 [.int .i64 S, .slice qa ql qc, .slice pa pl pc]) := I0V2.out.of_below BV0.out
          have S10 : Hid (SL W0 a1 t.1) := S1.out.of_below BU.out
          have S20 : Hid (SL W0 a2 t.2) := S2.out.of_below BU.out
          clear S1 S2
          go_wp2_with fail
          rw [← hW0, ← hhz]
          clear hW0 hhz h1 h2 BU B3
          obtain ⟨G3, rfl⟩ : ∃ G3, G3 = gk := ⟨_, rfl⟩
          go_loopg [11] n1 (fun gk v11 W1 => ∃ k : Nat, k + gk = n1 ∧ v11 = .int .i64 (k : Int) ∧ Below W0.heap.size W0 W1 ∧ (t.1.take k).all p = true ∧ (t.2.take k).all p = true)
          case atStart => exact ⟨0, by omega, rfl, Below.refl _ _, by simp, by simp⟩
          case round =>
            obtain ⟨W1, rfl⟩ : ∃ W1, W1 = wr := ⟨_, rfl⟩
            obtain ⟨k, hig4, rfl, hB4, hn1, hn2⟩ := hrel
            have B4 : Hid (Below W0.heap.size W0 W1) := hB4
            have HA1 : Hid ((t.1.take k).all p = true) := hn1
            have HA2 : Hid ((t.2.take k).all p = true) := hn2
            have BW1 : Hid (Below w.heap.size w W1) := JW0.out.trans (B4.out.mono JW0.out.size)
            have BV1 : Hid (Below V2.heap.size V2 W1) := BV0.out.trans (B4.out.mono BV0.out.size)
            clear hB4 hn1 hn2
            have z3 : W1.cell? ⟨hz, 0, none⟩ = some (.slice a1 n1 c1) := cell_keep (IC.out.cell 0 (by simp)) B4.out
            by_cases hk : k < n1
            · have kl : (k : Int) < (n1 : Int) := by omega
              have hk1 : k < t.1.length := by have := HN1.out; omega
              have hk2 : k < t.2.length := by have := HN2.out; omega
              obtain ⟨b1, o1, rfl, hc1⟩ := S10.out.of_below B4.out k hk1
              obtain ⟨b2, o2, rfl, hc2⟩ := S20.out.of_below B4.out k hk2
              have HT1 : Hid _ := all_take p hk1
              have HT2 : Hid _ := all_take p hk2
              have HN3 : Hid _ := all_not p hk1
              have HN4 : Hid _ := all_not p hk2
              generalize t.1[k] = s at *
              generalize t.2[k] = u at *
              have q0 : Hid (W1.cell? ⟨w.heap.size, 0, none⟩ = some (.int .i64 S)) := cell_keep (I00.out.cell 0 (by simp)) B4.out
              have q1 : Hid (W1.cell? ⟨w.heap.size, 1, none⟩ = some (.slice qa ql qc)) := cell_keep (I00.out.cell 1 (by simp)) B4.out
              have q2 : Hid (W1.cell? ⟨w.heap.size, 2, none⟩ = some (.slice pa pl pc)) := cell_keep (I00.out.cell 2 (by simp)) B4.out
              have q3 : Hid (W1.cell? ⟨hz, 0, none⟩ = some (.slice (some ⟨b1, o1, none⟩) n1 c1)) := z3
              have q4 : Hid (W1.cell? ⟨hz, 1, none⟩ = some (.slice (some ⟨b2, o2, none⟩) n1 c2)) := cell_keep (IC.out.cell 1 (by simp)) B4.out
              have q5 : Hid (W1.cell? ⟨b1, o1 + k, none⟩ = some (.string s)) := hc1
              have q6 : Hid (W1.cell? ⟨b2, o2 + k, none⟩ = some (.string u)) := hc2
              clear hc1 hc2
              go_wp2_with fail
              clear z3
              have HCE : Hid (∀ u V, Below w.heap.size w V → Calls Tryz.prog 37 #[.agg #[.int .i64 S, .slice qa ql qc, .slice pa pl pc], .string u] V fun e w' => e = .returned (.bool (p u)) ∧ Below V.heap.size V w') := HC.out
              cases hps : p s with
              | false =>
                have e7 : Hid (cz = 7) := C7.out A1.out A2.out (HO.out (by unfold stra; rw [HN3.out hps]; rfl))
                refine wp_region_held_drew (S := fun W => W.cell? ⟨w.heap.size, 0, none⟩ = some (.int .i64 S) ∧ W.cell? ⟨w.heap.size, 1, none⟩ = some (.slice qa ql qc) ∧ W.cell? ⟨w.heap.size, 2, none⟩ = some (.slice pa pl pc) ∧ W.cell? ⟨hz, 0, none⟩ = some (.slice (some ⟨b1, o1, none⟩) n1 c1) ∧ W.cell? ⟨hz, 1, none⟩ = some (.slice (some ⟨b2, o2, none⟩) n1 c2) ∧ W.cell? ⟨b1, o1 + k, none⟩ = some (.string s) ∧ W.cell? ⟨b2, o2 + k, none⟩ = some (.string u)) (by kernel_rfl) ⟨q0.out, q1.out, q2.out, q3.out, q4.out, q5.out, q6.out⟩ (fun hHeld => ?_)
                refine tk (i := 0) (v := .agg #[.int .i64 S, .slice qa ql qc, .slice pa pl pc]) rfl (by kernel_rfl) (fun _ _ _ h => h) rfl ?_ hHeld ?_
                · intro W hS; have x0_0 := hS.1; have x0_1 := hS.2.1; have x0_2 := hS.2.2.1; clear hS; go_simp
                simp only [Act.put, y1, y2, y3, y4, y5, y6, y7]
                refine tk (i := 1) (v := .pointer (some ⟨hz, 0, none⟩)) rfl (by kernel_rfl) (fun _ _ _ h => h) rfl ?_ hHeld ?_
                · intro W hS; clear hS; go_simp
                simp only [Act.put, y1, y2, y3, y4, y5, y6, y7]
                refine tk (i := 2) (v := .slice (some ⟨b1, o1, none⟩) n1 c1) rfl (by kernel_rfl) (fun _ _ _ h => h) rfl ?_ hHeld ?_
                · intro W hS; have x2_0 := hS.2.2.2.1; clear hS; go_simp
                simp only [Act.put, y1, y2, y3, y4, y5, y6, y7]
                refine tk (i := 3) (v := .int .i64 (k : Int)) rfl (by kernel_rfl) (fun _ _ _ h => h) rfl ?_ hHeld ?_
                · intro W hS; clear hS; go_simp
                simp only [Act.put, y1, y2, y3, y4, y5, y6, y7]
                refine tk (i := 4) (v := .pointer (some ⟨b1, o1 + k, none⟩)) rfl (by kernel_rfl) (fun _ _ _ h => h) rfl ?_ hHeld ?_
                · intro W hS; clear hS; go_simp
                simp only [Act.put, y1, y2, y3, y4, y5, y6, y7]
                refine tk (i := 5) (v := .string s) rfl (by kernel_rfl) (fun _ _ _ h => h) rfl ?_ hHeld ?_
                · intro W hS; have x5_0 := hS.2.2.2.2.2.1; clear hS; go_simp
                simp only [Act.put, y1, y2, y3, y4, y5, y6, y7]
                refine wpAnyH_ready (rs := [6]) (by kernel_rfl) (by simp) ?_
                refine AllReadyH.cons rfl (fun K hK => ?_) AllReadyH.nil
                go_simp
                have q := HCE.out s _ (BW1.out.drew)
                rw [hps] at q
                refine q.mono ?_
                clear q
                rintro e v6 ⟨rfl, hBv6⟩
                have Dv6 : Hid (Below W1.heap.size W1 v6) := (dB W1).trans (hBv6.mono (dB W1).size)
                have BP : Hid (Below w.heap.size w v6) := BW1.out.trans (Dv6.out.mono BW1.out.size)
                clear hBv6
                go_wp2_with fail
                refine hK.out _ _ ⟨cell_keep q0.out Dv6.out, cell_keep q1.out Dv6.out, cell_keep q2.out Dv6.out, cell_keep q3.out Dv6.out, cell_keep q4.out Dv6.out, cell_keep q5.out Dv6.out, cell_keep q6.out Dv6.out⟩ (fun hHeld_6 => ?_)
                clear hK K hHeld
                try simp only [Act.put, y1, y2, y3, y4, y5, y6, y7]
                refine tk (i := 7) (v := .bool true) rfl (by kernel_rfl) (fun _ _ _ h => h) rfl ?_ hHeld_6 ?_
                · intro W hS; clear hS; go_simp
                simp only [Act.put, y1, y2, y3, y4, y5, y6, y7]
                refine tk (i := 8) (v := .bool true) rfl (by kernel_rfl) (fun _ _ _ h => h) rfl ?_ hHeld_6 ?_
                · intro W hS; clear hS; go_simp
                simp only [Act.put, y1, y2, y3, y4, y5, y6, y7]
                refine tkU (i := 9) rfl (by kernel_rfl) (fun _ _ _ h => h) (by kernel_rfl) hHeld_6 ?_
                simp only [Act.put, y1, y2, y3, y4, y5, y6, y7]
                refine tkU (i := 10) rfl (by kernel_rfl) (fun _ _ _ h => h) (by kernel_rfl) hHeld_6 ?_
                simp only [Act.put, y1, y2, y3, y4, y5, y6, y7]
                refine tkU (i := 11) rfl (by kernel_rfl) (fun _ _ _ h => h) (by kernel_rfl) hHeld_6 ?_
                simp only [Act.put, y1, y2, y3, y4, y5, y6, y7]
                refine tkU (i := 12) rfl (by kernel_rfl) (fun _ _ _ h => h) (by kernel_rfl) hHeld_6 ?_
                simp only [Act.put, y1, y2, y3, y4, y5, y6, y7]
                refine tkU (i := 13) rfl (by kernel_rfl) (fun _ _ _ h => h) (by kernel_rfl) hHeld_6 ?_
                simp only [Act.put, y1, y2, y3, y4, y5, y6, y7]
                refine tkU (i := 14) rfl (by kernel_rfl) (fun _ _ _ h => h) (by kernel_rfl) hHeld_6 ?_
                simp only [Act.put, y1, y2, y3, y4, y5, y6, y7]
                refine tkU (i := 15) rfl (by kernel_rfl) (fun _ _ _ h => h) (by kernel_rfl) hHeld_6 ?_
                simp only [Act.put, y1, y2, y3, y4, y5, y6, y7]
                refine tkU (i := 16) rfl (by kernel_rfl) (fun _ _ _ h => h) (by kernel_rfl) hHeld_6 ?_
                simp only [Act.put, y1, y2, y3, y4, y5, y6, y7]
                refine tk (i := 17) (v := .bool true) rfl (by kernel_rfl) (fun _ _ _ h => h) rfl ?_ hHeld_6 ?_
                · intro W hS; clear hS; go_simp
                simp only [Act.put, y1, y2, y3, y4, y5, y6, y7]
                refine wpAnyH_done (by kernel_rfl) ?_ _
                clear hHeld_6
                go_wp2_with fail
                go_ret
                exact ⟨by rw [e7.out]; rfl, BW1.out.trans (Dv6.out.mono BW1.out.size)⟩
              | true =>
                cases hpu : p u with
                | false =>
                  have e7 : Hid (cz = 7) := C7.out A1.out A2.out (HO.out (by unfold stra; rw [HN4.out hpu]; simp))
                  refine wp_region_held_drew (S := fun W => W.cell? ⟨w.heap.size, 0, none⟩ = some (.int .i64 S) ∧ W.cell? ⟨w.heap.size, 1, none⟩ = some (.slice qa ql qc) ∧ W.cell? ⟨w.heap.size, 2, none⟩ = some (.slice pa pl pc) ∧ W.cell? ⟨hz, 0, none⟩ = some (.slice (some ⟨b1, o1, none⟩) n1 c1) ∧ W.cell? ⟨hz, 1, none⟩ = some (.slice (some ⟨b2, o2, none⟩) n1 c2) ∧ W.cell? ⟨b1, o1 + k, none⟩ = some (.string s) ∧ W.cell? ⟨b2, o2 + k, none⟩ = some (.string u)) (by kernel_rfl) ⟨q0.out, q1.out, q2.out, q3.out, q4.out, q5.out, q6.out⟩ (fun hHeld => ?_)
                  refine tk (i := 0) (v := .agg #[.int .i64 S, .slice qa ql qc, .slice pa pl pc]) rfl (by kernel_rfl) (fun _ _ _ h => h) rfl ?_ hHeld ?_
                  · intro W hS; have x0_0 := hS.1; have x0_1 := hS.2.1; have x0_2 := hS.2.2.1; clear hS; go_simp
                  simp only [Act.put, y1, y2, y3, y4, y5, y6, y7]
                  refine tk (i := 1) (v := .pointer (some ⟨hz, 0, none⟩)) rfl (by kernel_rfl) (fun _ _ _ h => h) rfl ?_ hHeld ?_
                  · intro W hS; clear hS; go_simp
                  simp only [Act.put, y1, y2, y3, y4, y5, y6, y7]
                  refine tk (i := 2) (v := .slice (some ⟨b1, o1, none⟩) n1 c1) rfl (by kernel_rfl) (fun _ _ _ h => h) rfl ?_ hHeld ?_
                  · intro W hS; have x2_0 := hS.2.2.2.1; clear hS; go_simp
                  simp only [Act.put, y1, y2, y3, y4, y5, y6, y7]
                  refine tk (i := 3) (v := .int .i64 (k : Int)) rfl (by kernel_rfl) (fun _ _ _ h => h) rfl ?_ hHeld ?_
                  · intro W hS; clear hS; go_simp
                  simp only [Act.put, y1, y2, y3, y4, y5, y6, y7]
                  refine tk (i := 4) (v := .pointer (some ⟨b1, o1 + k, none⟩)) rfl (by kernel_rfl) (fun _ _ _ h => h) rfl ?_ hHeld ?_
                  · intro W hS; clear hS; go_simp
                  simp only [Act.put, y1, y2, y3, y4, y5, y6, y7]
                  refine tk (i := 5) (v := .string s) rfl (by kernel_rfl) (fun _ _ _ h => h) rfl ?_ hHeld ?_
                  · intro W hS; have x5_0 := hS.2.2.2.2.2.1; clear hS; go_simp
                  simp only [Act.put, y1, y2, y3, y4, y5, y6, y7]
                  refine wpAnyH_ready (rs := [6]) (by kernel_rfl) (by simp) ?_
                  refine AllReadyH.cons rfl (fun K hK => ?_) AllReadyH.nil
                  go_simp
                  have q := HCE.out s _ (BW1.out.drew)
                  rw [hps] at q
                  refine q.mono ?_
                  clear q
                  rintro e v6 ⟨rfl, hBv6⟩
                  have Dv6 : Hid (Below W1.heap.size W1 v6) := (dB W1).trans (hBv6.mono (dB W1).size)
                  have BP : Hid (Below w.heap.size w v6) := BW1.out.trans (Dv6.out.mono BW1.out.size)
                  clear hBv6
                  go_wp2_with fail
                  refine hK.out _ _ ⟨cell_keep q0.out Dv6.out, cell_keep q1.out Dv6.out, cell_keep q2.out Dv6.out, cell_keep q3.out Dv6.out, cell_keep q4.out Dv6.out, cell_keep q5.out Dv6.out, cell_keep q6.out Dv6.out⟩ (fun hHeld_6 => ?_)
                  clear hK K hHeld
                  try simp only [Act.put, y1, y2, y3, y4, y5, y6, y7]
                  refine tk (i := 7) (v := .bool false) rfl (by kernel_rfl) (fun _ _ _ h => h) rfl ?_ hHeld_6 ?_
                  · intro W hS; clear hS; go_simp
                  simp only [Act.put, y1, y2, y3, y4, y5, y6, y7]
                  refine tk (i := 8) (v := .bool false) rfl (by kernel_rfl) (fun _ _ _ h => h) rfl ?_ hHeld_6 ?_
                  · intro W hS; clear hS; go_simp
                  simp only [Act.put, y1, y2, y3, y4, y5, y6, y7]
                  refine tk (i := 9) (v := .agg #[.int .i64 S, .slice qa ql qc, .slice pa pl pc]) rfl (by kernel_rfl) (fun _ _ _ h => h) rfl ?_ hHeld_6 ?_
                  · intro W hS; have x9_0 := hS.1; have x9_1 := hS.2.1; have x9_2 := hS.2.2.1; clear hS; go_simp
                  simp only [Act.put, y1, y2, y3, y4, y5, y6, y7]
                  refine tk (i := 10) (v := .pointer (some ⟨hz, 1, none⟩)) rfl (by kernel_rfl) (fun _ _ _ h => h) rfl ?_ hHeld_6 ?_
                  · intro W hS; clear hS; go_simp
                  simp only [Act.put, y1, y2, y3, y4, y5, y6, y7]
                  refine tk (i := 11) (v := .slice (some ⟨b2, o2, none⟩) n1 c2) rfl (by kernel_rfl) (fun _ _ _ h => h) rfl ?_ hHeld_6 ?_
                  · intro W hS; have x11_0 := hS.2.2.2.2.1; clear hS; go_simp
                  simp only [Act.put, y1, y2, y3, y4, y5, y6, y7]
                  refine tk (i := 12) (v := .int .i64 (k : Int)) rfl (by kernel_rfl) (fun _ _ _ h => h) rfl ?_ hHeld_6 ?_
                  · intro W hS; clear hS; go_simp
                  simp only [Act.put, y1, y2, y3, y4, y5, y6, y7]
                  refine tk (i := 13) (v := .pointer (some ⟨b2, o2 + k, none⟩)) rfl (by kernel_rfl) (fun _ _ _ h => h) rfl ?_ hHeld_6 ?_
                  · intro W hS; clear hS; go_simp
                  simp only [Act.put, y1, y2, y3, y4, y5, y6, y7]
                  refine tk (i := 14) (v := .string u) rfl (by kernel_rfl) (fun _ _ _ h => h) rfl ?_ hHeld_6 ?_
                  · intro W hS; have x14_0 := hS.2.2.2.2.2.2; clear hS; go_simp
                  simp only [Act.put, y1, y2, y3, y4, y5, y6, y7]
                  refine wpAnyH_ready (rs := [15]) (by kernel_rfl) (by simp) ?_
                  refine AllReadyH.cons rfl (fun K hK => ?_) AllReadyH.nil
                  go_simp
                  have q := HCE.out u _ (BP.out)
                  rw [hpu] at q
                  refine q.mono ?_
                  clear q
                  rintro e v15 ⟨rfl, hBv15⟩
                  have Dv15 : Hid (Below W1.heap.size W1 v15) := Dv6.out.trans (hBv15.mono Dv6.out.size)
                  clear hBv15
                  go_wp2_with fail
                  refine hK.out _ _ ⟨cell_keep q0.out Dv15.out, cell_keep q1.out Dv15.out, cell_keep q2.out Dv15.out, cell_keep q3.out Dv15.out, cell_keep q4.out Dv15.out, cell_keep q5.out Dv15.out, cell_keep q6.out Dv15.out⟩ (fun hHeld_6_15 => ?_)
                  clear hK K hHeld_6
                  try simp only [Act.put, y1, y2, y3, y4, y5, y6, y7]
                  refine tk (i := 16) (v := .bool true) rfl (by kernel_rfl) (fun _ _ _ h => h) rfl ?_ hHeld_6_15 ?_
                  · intro W hS; clear hS; go_simp
                  simp only [Act.put, y1, y2, y3, y4, y5, y6, y7]
                  refine tk (i := 17) (v := .bool true) rfl (by kernel_rfl) (fun _ _ _ h => h) rfl ?_ hHeld_6_15 ?_
                  · intro W hS; clear hS; go_simp
                  simp only [Act.put, y1, y2, y3, y4, y5, y6, y7]
                  refine wpAnyH_done (by kernel_rfl) ?_ _
                  clear hHeld_6_15
                  go_wp2_with fail
                  go_ret
                  exact ⟨by rw [e7.out]; rfl, BW1.out.trans (Dv15.out.mono BW1.out.size)⟩
                | true =>
                  refine wp_region_held_drew (S := fun W => W.cell? ⟨w.heap.size, 0, none⟩ = some (.int .i64 S) ∧ W.cell? ⟨w.heap.size, 1, none⟩ = some (.slice qa ql qc) ∧ W.cell? ⟨w.heap.size, 2, none⟩ = some (.slice pa pl pc) ∧ W.cell? ⟨hz, 0, none⟩ = some (.slice (some ⟨b1, o1, none⟩) n1 c1) ∧ W.cell? ⟨hz, 1, none⟩ = some (.slice (some ⟨b2, o2, none⟩) n1 c2) ∧ W.cell? ⟨b1, o1 + k, none⟩ = some (.string s) ∧ W.cell? ⟨b2, o2 + k, none⟩ = some (.string u)) (by kernel_rfl) ⟨q0.out, q1.out, q2.out, q3.out, q4.out, q5.out, q6.out⟩ (fun hHeld => ?_)
                  refine tk (i := 0) (v := .agg #[.int .i64 S, .slice qa ql qc, .slice pa pl pc]) rfl (by kernel_rfl) (fun _ _ _ h => h) rfl ?_ hHeld ?_
                  · intro W hS; have x0_0 := hS.1; have x0_1 := hS.2.1; have x0_2 := hS.2.2.1; clear hS; go_simp
                  simp only [Act.put, y1, y2, y3, y4, y5, y6, y7]
                  refine tk (i := 1) (v := .pointer (some ⟨hz, 0, none⟩)) rfl (by kernel_rfl) (fun _ _ _ h => h) rfl ?_ hHeld ?_
                  · intro W hS; clear hS; go_simp
                  simp only [Act.put, y1, y2, y3, y4, y5, y6, y7]
                  refine tk (i := 2) (v := .slice (some ⟨b1, o1, none⟩) n1 c1) rfl (by kernel_rfl) (fun _ _ _ h => h) rfl ?_ hHeld ?_
                  · intro W hS; have x2_0 := hS.2.2.2.1; clear hS; go_simp
                  simp only [Act.put, y1, y2, y3, y4, y5, y6, y7]
                  refine tk (i := 3) (v := .int .i64 (k : Int)) rfl (by kernel_rfl) (fun _ _ _ h => h) rfl ?_ hHeld ?_
                  · intro W hS; clear hS; go_simp
                  simp only [Act.put, y1, y2, y3, y4, y5, y6, y7]
                  refine tk (i := 4) (v := .pointer (some ⟨b1, o1 + k, none⟩)) rfl (by kernel_rfl) (fun _ _ _ h => h) rfl ?_ hHeld ?_
                  · intro W hS; clear hS; go_simp
                  simp only [Act.put, y1, y2, y3, y4, y5, y6, y7]
                  refine tk (i := 5) (v := .string s) rfl (by kernel_rfl) (fun _ _ _ h => h) rfl ?_ hHeld ?_
                  · intro W hS; have x5_0 := hS.2.2.2.2.2.1; clear hS; go_simp
                  simp only [Act.put, y1, y2, y3, y4, y5, y6, y7]
                  refine wpAnyH_ready (rs := [6]) (by kernel_rfl) (by simp) ?_
                  refine AllReadyH.cons rfl (fun K hK => ?_) AllReadyH.nil
                  go_simp
                  have q := HCE.out s _ (BW1.out.drew)
                  rw [hps] at q
                  refine q.mono ?_
                  clear q
                  rintro e v6 ⟨rfl, hBv6⟩
                  have Dv6 : Hid (Below W1.heap.size W1 v6) := (dB W1).trans (hBv6.mono (dB W1).size)
                  have BP : Hid (Below w.heap.size w v6) := BW1.out.trans (Dv6.out.mono BW1.out.size)
                  clear hBv6
                  go_wp2_with fail
                  refine hK.out _ _ ⟨cell_keep q0.out Dv6.out, cell_keep q1.out Dv6.out, cell_keep q2.out Dv6.out, cell_keep q3.out Dv6.out, cell_keep q4.out Dv6.out, cell_keep q5.out Dv6.out, cell_keep q6.out Dv6.out⟩ (fun hHeld_6 => ?_)
                  clear hK K hHeld
                  try simp only [Act.put, y1, y2, y3, y4, y5, y6, y7]
                  refine tk (i := 7) (v := .bool false) rfl (by kernel_rfl) (fun _ _ _ h => h) rfl ?_ hHeld_6 ?_
                  · intro W hS; clear hS; go_simp
                  simp only [Act.put, y1, y2, y3, y4, y5, y6, y7]
                  refine tk (i := 8) (v := .bool false) rfl (by kernel_rfl) (fun _ _ _ h => h) rfl ?_ hHeld_6 ?_
                  · intro W hS; clear hS; go_simp
                  simp only [Act.put, y1, y2, y3, y4, y5, y6, y7]
                  refine tk (i := 9) (v := .agg #[.int .i64 S, .slice qa ql qc, .slice pa pl pc]) rfl (by kernel_rfl) (fun _ _ _ h => h) rfl ?_ hHeld_6 ?_
                  · intro W hS; have x9_0 := hS.1; have x9_1 := hS.2.1; have x9_2 := hS.2.2.1; clear hS; go_simp
                  simp only [Act.put, y1, y2, y3, y4, y5, y6, y7]
                  refine tk (i := 10) (v := .pointer (some ⟨hz, 1, none⟩)) rfl (by kernel_rfl) (fun _ _ _ h => h) rfl ?_ hHeld_6 ?_
                  · intro W hS; clear hS; go_simp
                  simp only [Act.put, y1, y2, y3, y4, y5, y6, y7]
                  refine tk (i := 11) (v := .slice (some ⟨b2, o2, none⟩) n1 c2) rfl (by kernel_rfl) (fun _ _ _ h => h) rfl ?_ hHeld_6 ?_
                  · intro W hS; have x11_0 := hS.2.2.2.2.1; clear hS; go_simp
                  simp only [Act.put, y1, y2, y3, y4, y5, y6, y7]
                  refine tk (i := 12) (v := .int .i64 (k : Int)) rfl (by kernel_rfl) (fun _ _ _ h => h) rfl ?_ hHeld_6 ?_
                  · intro W hS; clear hS; go_simp
                  simp only [Act.put, y1, y2, y3, y4, y5, y6, y7]
                  refine tk (i := 13) (v := .pointer (some ⟨b2, o2 + k, none⟩)) rfl (by kernel_rfl) (fun _ _ _ h => h) rfl ?_ hHeld_6 ?_
                  · intro W hS; clear hS; go_simp
                  simp only [Act.put, y1, y2, y3, y4, y5, y6, y7]
                  refine tk (i := 14) (v := .string u) rfl (by kernel_rfl) (fun _ _ _ h => h) rfl ?_ hHeld_6 ?_
                  · intro W hS; have x14_0 := hS.2.2.2.2.2.2; clear hS; go_simp
                  simp only [Act.put, y1, y2, y3, y4, y5, y6, y7]
                  refine wpAnyH_ready (rs := [15]) (by kernel_rfl) (by simp) ?_
                  refine AllReadyH.cons rfl (fun K hK => ?_) AllReadyH.nil
                  go_simp
                  have q := HCE.out u _ (BP.out)
                  rw [hpu] at q
                  refine q.mono ?_
                  clear q
                  rintro e v15 ⟨rfl, hBv15⟩
                  have Dv15 : Hid (Below W1.heap.size W1 v15) := Dv6.out.trans (hBv15.mono Dv6.out.size)
                  clear hBv15
                  go_wp2_with fail
                  refine hK.out _ _ ⟨cell_keep q0.out Dv15.out, cell_keep q1.out Dv15.out, cell_keep q2.out Dv15.out, cell_keep q3.out Dv15.out, cell_keep q4.out Dv15.out, cell_keep q5.out Dv15.out, cell_keep q6.out Dv15.out⟩ (fun hHeld_6_15 => ?_)
                  clear hK K hHeld_6
                  try simp only [Act.put, y1, y2, y3, y4, y5, y6, y7]
                  refine tk (i := 16) (v := .bool false) rfl (by kernel_rfl) (fun _ _ _ h => h) rfl ?_ hHeld_6_15 ?_
                  · intro W hS; clear hS; go_simp
                  simp only [Act.put, y1, y2, y3, y4, y5, y6, y7]
                  refine tk (i := 17) (v := .bool false) rfl (by kernel_rfl) (fun _ _ _ h => h) rfl ?_ hHeld_6_15 ?_
                  · intro W hS; clear hS; go_simp
                  simp only [Act.put, y1, y2, y3, y4, y5, y6, y7]
                  refine wpAnyH_done (by kernel_rfl) ?_ _
                  clear hHeld_6_15
                  go_wp2_with fail
                  go_roundg (gk - 1)
                  case measure => omega
                  case rel => exact ⟨k + 1, by omega, by go_num, B4.out.trans (Dv15.out.mono B4.out.size), by rw [HT1.out, HA1.out, hps]; rfl, by rw [HT2.out, HA2.out, hpu]; rfl⟩
            have kl : ¬ (k : Int) < (n1 : Int) := by omega
            have HF : Hid (stra p t = false) := by
              have g1 := HA1.out
              have g2 := HA2.out
              rw [List.take_of_length_le (by have := HN1.out; omega)] at g1
              rw [List.take_of_length_le (by have := HN2.out; omega)] at g2
              show _ = _
              unfold stra
              rw [g1, g2]; rfl
            go_wp2_with fail
            go_roundg (G3 - 1)
            case measure => omega
            case rel => exact ⟨i + 1, by omega, by go_num, BV1.out, by rw [HT.out, HN.out, HF.out]; rfl⟩
        have il3 : ¬ (i : Int) < (l.length : Int) := by omega
        have e0 : Hid (cz = 0) := C0.out A1.out A2.out (by have h := HN.out; rw [List.take_of_length_le (by omega)] at h; exact h)
        go_wp2_with fail
        go_ret
        exact ⟨by rw [e0.out]; rfl, JV2.out.trans (B3.out.mono JV2.out.size)⟩
end Go.Proofs.YtfbceknafmkipaaGreat
