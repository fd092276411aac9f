/- The document: Begin of anything. -/
import Derived.Test.YtflabehlaiocaaaDoorHb
set_option linter.unusedSimpArgs false
set_option linter.unusedVariables false
set_option maxRecDepth 100000
namespace Go.Proofs.YtflabehlaiocaaaDoor
open Go.RowKit Go.Deep Go.PlainAid

set_option maxHeartbeats 16000000 in
theorem begin5_main {w : World} {ct cw : Nat} {at_ aw : Option Addr} {t ws : List Int} {n d : ByteArray} (ht : IL w at_ t) (hw : IL w aw ws) (htn : t.length < 9223372036854775808) (hwc : ws.length ≤ cw) (hcw : cw < 9223372036854775808) (h2 : 2 ≤ t.length) (h12 : t.length ≤ 12) (h1 : 1 ≤ ws.length) (hl : ws.length < t.length) :
    Calls Tryd.prog 5 #[.slice at_ t.length ct, .slice aw ws.length cw, .agg #[.string n, .string d]] w fun e w' => BA t ws n d e w' ∧ Below w.heap.size w w' := by
  have B0 : Hid (Below w.heap.size w ((w.alloc (.cells #[.string n, .string d] 24)).alloc (.cells #[.slice none 0 0, .slice none 0 0, .slice none 0 0, .slice none 0 0, .string ⟨#[]⟩, .string ⟨#[]⟩, .int .i64 0] 27))) := ((Below.refl _ w).alloc (Nat.le_refl _) _).alloc (by simp only [World.size_alloc]; omega) _
  have J0 : Hid (IHolds ((w.alloc (.cells #[.string n, .string d] 24)).alloc (.cells #[.slice none 0 0, .slice none 0 0, .slice none 0 0, .slice none 0 0, .string ⟨#[]⟩, .string ⟨#[]⟩, .int .i64 0] 27)) (w.heap.size + 1) 27 [.slice none 0 0, .slice none 0 0, .slice none 0 0, .slice none 0 0, .string ⟨#[]⟩, .string ⟨#[]⟩, .int .i64 0]) := by
    have q := IHolds.new (w.alloc (.cells #[.string n, .string d] 24)) 27 [.slice none 0 0, .slice none 0 0, .slice none 0 0, .slice none 0 0, .string ⟨#[]⟩, .string ⟨#[]⟩, .int .i64 0]
    simp only [World.size_alloc] at q
    exact q
  have X0 : Hid (IHolds ((w.alloc (.cells #[.string n, .string d] 24)).alloc (.cells #[.slice none 0 0, .slice none 0 0, .slice none 0 0, .slice none 0 0, .string ⟨#[]⟩, .string ⟨#[]⟩, .int .i64 0] 27)) w.heap.size 24 [.string n, .string d]) := by
    have q := IHolds.new w 24 [.string n, .string d]
    exact q.alloc _
  have HTR : Hid (w.heap.size ≤ w.heap.size + 1) := (by omega : w.heap.size ≤ w.heap.size + 1)
  have HA : Hid (IL w at_ t ∧ IL w aw ws ∧ t.length ≤ 12 ∧ ws.length ≤ 12 ∧ t.length < 9223372036854775808 ∧ ws.length ≤ cw ∧ cw < 9223372036854775808) := ⟨ht, hw, h12, by omega, htn, hwc, hcw⟩
  have HM : Hid (msB t.length ws = (List.range ws.length).any (wrB t.length ws)) := ms_else h2 h12 h1 hl
  have g1 : ¬ (t.length : Int) < 2 := by omega
  have g2 : ¬ (12 : Int) < (t.length : Int) := by omega
  have g3 : ¬ (ws.length : Int) < 1 := by omega
  have g4 : ¬ (t.length : Int) ≤ (ws.length : Int) := by omega
  clear ht hw htn hwc hcw h2 h12 h1 hl
  go_enter Tryd.func5, Tryd.ntmps5
  go_upto_block 0 with fail
  clear g1 g2 g3 g4
  generalize ((w.alloc (.cells #[.string n, .string d] 24)).alloc (.cells #[.slice none 0 0, .slice none 0 0, .slice none 0 0, .slice none 0 0, .string ⟨#[]⟩, .string ⟨#[]⟩, .int .i64 0] 27)) = V0 at *
  refine rd0_wp (w := w) (tr := w.heap.size + 1) (tx := w.heap.size) (n := n) (d := d) HA.out.2.1 (by have := HA.out.2.2.1; omega) HA.out.2.2.2.2.2.1 HA.out.2.2.2.2.2.2 J0.out X0.out B0.out HTR.out ?_ ?_
  · intro hg y8 y9 y41 y42 y43 y44 y45 y46 y47 y48 y49 y50 y51 y52 y53 y54 y55 y56 y57 y58 y59 y60 y61 y62 V1 hJ hX hB
    have J1 : Hid (IHolds V1 (w.heap.size + 1) 27 [.slice none 0 0, .slice none 0 0, .slice none 0 0, .slice none 0 0, .string ⟨#[]⟩, .string ⟨#[]⟩, .int .i64 0]) := hJ
    have X1 : Hid (IHolds V1 w.heap.size 24 [.string n, .string d]) := hX
    have B1 : Hid (Below w.heap.size w V1) := hB
    have HG : Hid (msB t.length ws = false) := by show _ = _; rw [HM.out]; exact hg
    clear hg hJ hX hB J0 X0 B0 HM
    go_upto_block 2 with fail
    refine rd2_wp (w := w) (tr := w.heap.size + 1) (tx := w.heap.size) (n := n) (d := d) HA.out.1 HA.out.2.2.2.2.1 J1.out X1.out B1.out HTR.out ?_ ?_
    · intro hg2 y11 y65 y66 y67 y68 y69 y70 y71 y72 y73 y74 y75 y76 V2 hJ hX hB
      have J2 : Hid (IHolds V2 (w.heap.size + 1) 27 [.slice none 0 0, .slice none 0 0, .slice none 0 0, .slice none 0 0, .string ⟨#[]⟩, .string ⟨#[]⟩, .int .i64 0]) := hJ
      have X2 : Hid (IHolds V2 w.heap.size 24 [.string n, .string d]) := hX
      have B2 : Hid (Below w.heap.size w V2) := hB
      have HG2 : Hid (t.any ntB = false) := hg2
      clear hg2 hJ hX hB J1 X1 B1
      obtain ⟨x0, x1⟩ := cJ X2
      go_wp2_with (go_at_call 14; refine (risk14 n d V2).mono ?_)
      rintro e V3 ⟨⟨a1, k1, c1, a2, k2, c2, rfl⟩, hb⟩
      clear x0 x1
      have J3 : Hid (IHolds V3 (w.heap.size + 1) 27 [.slice none 0 0, .slice none 0 0, .slice none 0 0, .slice none 0 0, .string ⟨#[]⟩, .string ⟨#[]⟩, .int .i64 0]) := J2.out.of_below hb
      have X3 : Hid (IHolds V3 w.heap.size 24 [.string n, .string d]) := X2.out.of_below hb
      have B3 : Hid (Below w.heap.size w V3) := B2.out.trans (hb.mono B2.out.size)
      clear hb J2 X2 B2
      go_upto_region 16 with fail
      have hb := nB V3 (.cells #[.slice a1 k1 c1, .slice a2 k2 c2] 46)
      replace J3 := aJ J3 hb
      replace X3 := aJ X3 hb
      replace B3 := aB B3 hb
      clear hb
      generalize (V3.alloc (.cells #[.slice a1 k1 c1, .slice a2 k2 c2] 46)) = V4 at *
      by_cases hz : rkC n d = 0
      · have HZ : Hid (rkC n d = 0) := hz
        rw [hz]
        clear hz
        obtain ⟨x0, x1⟩ := cJ X3
        go_upto_block 4 with fail
        clear x0 x1
        have J5 : Hid (IHolds (V4.alloc (.cells #[.slice none 0 0, .slice none 0 0, .slice none 0 0, .slice none 0 0, .string n, .string d, .int .i64 0] 27)) V4.heap.size 27 [.slice none 0 0, .slice none 0 0, .slice none 0 0, .slice none 0 0, .string n, .string d, .int .i64 0]) := IHolds.new V4 27 _
        have hb := nB V4 (.cells #[.slice none 0 0, .slice none 0 0, .slice none 0 0, .slice none 0 0, .string n, .string d, .int .i64 0] 27)
        have NE : Hid (w.heap.size + 1 < V4.heap.size) := J3.out.lt
        replace J3 := aJ J3 hb
        replace B3 := aB B3 hb
        have SZ : Hid ((V4.alloc (.cells #[.slice none 0 0, .slice none 0 0, .slice none 0 0, .slice none 0 0, .string n, .string d, .int .i64 0] 27)).heap.size = V4.heap.size + 1) := by show _ = _; simp
        clear hb X3
        generalize (V4.alloc (.cells #[.slice none 0 0, .slice none 0 0, .slice none 0 0, .slice none 0 0, .string n, .string d, .int .i64 0] 27)) = V5 at *
        refine rd4_wp (w := w) (P := fun g => g = w.heap.size + 1) (tb := V4.heap.size) (tr := w.heap.size + 1) (n := n) (d := d) HA.out.1 HA.out.2.1 (nt_no HG2.out) HA.out.2.2.1 HA.out.2.2.2.1 (ms_no HG.out).2.2.2.2
          ⟨J5.out, World.ownsRow_nil _ _ _ _, World.ownsRow_nil _ _ _ _, World.ownsRow_nil _ _ _ _, World.ownsRow_nil _ _ _ _, fun _ h => (by cases h), fun _ h => (by cases h), B3.out, by have := NE.out; omega, fun g h => ⟨by rw [h]; exact J3.out.lt, by have := NE.out; omega, fun q => (by cases q), fun q => (by cases q), fun q => (by cases q), fun q => (by cases q)⟩⟩ rfl J3.out HTR.out ?_ ?_
        · intro hg3 y16 y17 y90 y91 y92 y93 y94 y95 y96 y97 y98 y99 y100 y101 y102 y103 y104 y105 y106 y107 y108 y109 y110 y111 y112 y113 y114 y115 y116 y117 y118 y119 y120 y121 y122 y123 y124 y125 y126 y127 y128 y129 y130 y131 y132 y133 y134 y135 y136 y137 y138 y139 y140 y141 y142 y143 y144 y145 y146 y147 z1 z2 z3 z4 W hs hk
          have S : Hid (WS w W (fun g => g = w.heap.size + 1) V4.heap.size n d z1 z2 z3 z4 (rW1 (loL ws t.length) ws) (rW2 (loL ws t.length) ws) (rW3 t (loL ws t.length) ws) (rW4 (loL ws t.length) ws)) := hs
          have J6 : Hid (IHolds W (w.heap.size + 1) 27 [.slice none 0 0, .slice none 0 0, .slice none 0 0, .slice none 0 0, .string ⟨#[]⟩, .string ⟨#[]⟩, .int .i64 0]) := (show IHolds _ _ _ _ from (hk _ rfl).trans J3.out)
          have BE : Hid (beC t ws n d = 0) := by
            show _ = _
            unfold beC
            rw [HG.out, HG2.out, HZ.out, tie_not (nt_no HG2.out) hg3]
            rfl
          clear hs hk hg3 J3 B3 J5 HG HG2 HZ HA SZ
          obtain ⟨c1, c2, c3, c4, c5, c6, c7⟩ := seven S.out.hold
          obtain ⟨e1, e2, e3, e4, e5, e6, e7⟩ := seven J6.out
          have f0 : ∀ i, W.frozen? ⟨w.heap.size + 1, i, none⟩ = false := fun i => J6.out.frozen i
          obtain ⟨s1, k1, h1, rfl⟩ := own_slice S.out.o1
          obtain ⟨s2, k2, h2, rfl⟩ := own_slice S.out.o2
          obtain ⟨s3, k3, h3, rfl⟩ := own_slice S.out.o3
          obtain ⟨s4, k4, h4, rfl⟩ := own_slice S.out.o4
          obtain ⟨I7, B7, L7⟩ := set7 (y1 := .slice s1 k1 h1) (y2 := .slice s2 k2 h2) (y3 := .slice s3 k3 h3) (y4 := .slice s4 k4 h4) (y5 := .string n) (y6 := .string d) (y7 := .int .i64 0) J6.out S.out.below HTR.out
          have KO : ∀ {v : Value} {e s k : Nat} {xs : List Value}, W.ownsRow w.heap.size e s v k xs → 27 ≠ e → World.ownsRow _ w.heap.size e s v k xs := fun ho hne => own_of_block ho (fun g hx => B7.block g (ho.lt _ hx).2 (fun q => own_ne_cells ho J6.out hne (by rw [hx, q])))
          have R1 : Hid (WT _ (.slice s1 k1 h1) (.slice s2 k2 h2) (.slice s3 k3 h3) (.slice s4 k4 h4) (rW1 (loL ws t.length) ws) (rW2 (loL ws t.length) ws) (rW3 t (loL ws t.length) ws) (rW4 (loL ws t.length) ws)) := ⟨⟨_, KO S.out.o1 (by decide)⟩, ⟨_, KO S.out.o2 (by decide)⟩, ⟨_, KO S.out.o3 (by decide)⟩, ⟨_, KO S.out.o4 (by decide)⟩⟩
          have I7' : Hid _ := I7
          have L7' : Hid _ := L7
          clear I7 B7 L7 KO S J6
          go_wp2_with fail
          clear c1 c2 c3 c4 c5 c6 c7 e1 e2 e3 e4 e5 e6 e7 f0
          generalize (((((((W.setCell ⟨w.heap.size + 1, 0, none⟩ (.slice s1 k1 h1)).setCell ⟨w.heap.size + 1, 1, none⟩ (.slice s2 k2 h2)).setCell ⟨w.heap.size + 1, 2, none⟩ (.slice s3 k3 h3)).setCell ⟨w.heap.size + 1, 3, none⟩ (.slice s4 k4 h4)).setCell ⟨w.heap.size + 1, 4, none⟩ (.string n)).setCell ⟨w.heap.size + 1, 5, none⟩ (.string d)).setCell ⟨w.heap.size + 1, 6, none⟩ (.int .i64 0)) = X at *
          obtain ⟨E0, E1, E2, E3, E4, E5, E6⟩ := seven (W := X) (b := w.heap.size + 1) (t := 27) I7'.out
          exact bodyPost_ret (v := .tuple #[.agg #[.slice s1 k1 h1, .slice s2 k2 h2, .slice s3 k3 h3, .slice s4 k4 h4, .string n, .string d, .int .i64 0], .int .i64 0]) (by simp [results, Tryd.results5, go_sem, E0, E1, E2, E3, E4, E5, E6]) rfl ⟨Or.inr ⟨BE.out, _, _, _, _, rfl, R1.out⟩, L7'.out⟩
        · intro hg3 y16 y17 y90 y91 y92 y93 y94 y95 y96 y97 y98 y99 y100 y101 y102 y103 y104 y105 y106 y107 y108 y109 y110 y111 y112 y113 y114 y115 y116 y117 y118 y119 y120 y121 y122 y123 y124 y125 y126 y127 y128 y129 y130 y131 y132 y133 y134 y135 y136 y137 y138 y139 y140 y141 y142 y143 y144 y145 y146 y147 W hI hB
          have BE : Hid (beC t ws n d = 14) := by
            show _ = _
            unfold beC
            rw [HG.out, HG2.out, HZ.out, tie_yes (nt_no HG2.out) hg3]
            rfl
          have hI' : Hid _ := hI
          have hB' : Hid _ := hB
          clear hI hB
          go_wp2_with fail
          obtain ⟨E0, E1, E2, E3, E4, E5, E6⟩ := seven (W := W) (b := w.heap.size + 1) (t := 27) hI'.out
          exact bodyPost_ret (v := .tuple #[.agg #[.slice none 0 0, .slice none 0 0, .slice none 0 0, .slice none 0 0, .string ⟨#[]⟩, .string ⟨#[]⟩, .int .i64 0], .int .i64 14]) (by simp [results, Tryd.results5, go_sem, E0, E1, E2, E3, E4, E5, E6]) rfl ⟨Or.inl ⟨by rw [BE.out]; decide, by rw [BE.out]⟩, hB'.out⟩
      · have BE : Hid (beC t ws n d = rkC n d) := by
          show _ = _
          unfold beC
          rw [HG.out, HG2.out]
          simp [hz]
        have NZ : Hid (rkC n d ≠ 0) := hz
        have hz2 : (rkC n d == 0) = false := beq_eq_false_iff_ne.2 hz
        clear hz
        generalize rkC n d = z at *
        go_upto_region 17 with fail
        obtain ⟨e0, e1, e2, e3, e4, e5, e6⟩ := seven (W := V4) (b := w.heap.size + 1) (t := 27) J3.out
        have f0 : ∀ i, V4.frozen? ⟨w.heap.size + 1, i, none⟩ = false := fun i => IHolds.frozen (w := V4) (b := w.heap.size + 1) (t := 27) (l := [.slice none 0 0, .slice none 0 0, .slice none 0 0, .slice none 0 0, .string ⟨#[]⟩, .string ⟨#[]⟩, .int .i64 0]) J3.out i
        obtain ⟨I7, L7⟩ := zero27 (w := w) (W := V4) J3.out B3.out
        have I7' : Hid _ := I7
        have L7' : Hid _ := L7
        clear I7 L7 J3 B3 X3
        go_wp2_with fail
        clear e0 e1 e2 e3 e4 e5 e6 f0
        generalize (((((((V4.setCell ⟨w.heap.size + 1, 0, none⟩ (.slice none 0 0)).setCell ⟨w.heap.size + 1, 1, none⟩ (.slice none 0 0)).setCell ⟨w.heap.size + 1, 2, none⟩ (.slice none 0 0)).setCell ⟨w.heap.size + 1, 3, none⟩ (.slice none 0 0)).setCell ⟨w.heap.size + 1, 4, none⟩ (.string ⟨#[]⟩)).setCell ⟨w.heap.size + 1, 5, none⟩ (.string ⟨#[]⟩)).setCell ⟨w.heap.size + 1, 6, none⟩ (.int .i64 0)) = X at *
        obtain ⟨E0, E1, E2, E3, E4, E5, E6⟩ := seven (W := X) (b := w.heap.size + 1) (t := 27) I7'.out
        exact bodyPost_ret (v := .tuple #[.agg #[.slice none 0 0, .slice none 0 0, .slice none 0 0, .slice none 0 0, .string ⟨#[]⟩, .string ⟨#[]⟩, .int .i64 0], .int .i64 z]) (by simp [results, Tryd.results5, go_sem, E0, E1, E2, E3, E4, E5, E6]) rfl ⟨Or.inl ⟨by rw [BE.out]; exact NZ.out, by rw [BE.out]⟩, L7'.out⟩
    · intro hg2 y11 y65 y66 y67 y68 y69 y70 y71 y72 y73 y74 y75 y76 W hI hB
      have BE : Hid (beC t ws n d = 4) := by
        show _ = _
        unfold beC
        rw [HG.out, hg2]
        rfl
      have hI' : Hid _ := hI
      have hB' : Hid _ := hB
      clear hI hB
      go_wp2_with fail
      obtain ⟨E0, E1, E2, E3, E4, E5, E6⟩ := seven (W := W) (b := w.heap.size + 1) (t := 27) hI'.out
      exact bodyPost_ret (v := .tuple #[.agg #[.slice none 0 0, .slice none 0 0, .slice none 0 0, .slice none 0 0, .string ⟨#[]⟩, .string ⟨#[]⟩, .int .i64 0], .int .i64 4]) (by simp [results, Tryd.results5, go_sem, E0, E1, E2, E3, E4, E5, E6]) rfl ⟨Or.inl ⟨by rw [BE.out]; decide, by rw [BE.out]⟩, hB'.out⟩
  · intro hg y8 y9 y41 y42 y43 y44 y45 y46 y47 y48 y49 y50 y51 y52 y53 y54 y55 y56 y57 y58 y59 y60 y61 y62 W hI hB
    have BE : Hid (beC t ws n d = 2) := by
      show _ = _
      unfold beC
      rw [HM.out, hg]
      rfl
    have hI' : Hid _ := hI
    have hB' : Hid _ := hB
    clear hI hB
    go_wp2_with fail
    obtain ⟨E0, E1, E2, E3, E4, E5, E6⟩ := seven (W := W) (b := w.heap.size + 1) (t := 27) hI'.out
    exact bodyPost_ret (v := .tuple #[.agg #[.slice none 0 0, .slice none 0 0, .slice none 0 0, .slice none 0 0, .string ⟨#[]⟩, .string ⟨#[]⟩, .int .i64 0], .int .i64 2]) (by simp [results, Tryd.results5, go_sem, E0, E1, E2, E3, E4, E5, E6]) rfl ⟨Or.inl ⟨by rw [BE.out]; decide, by rw [BE.out]⟩, hB'.out⟩
theorem begin5 {w : World} {ct cw : Nat} {at_ aw : Option Addr} {t ws : List Int} {n d : ByteArray} (ht : IL w at_ t) (hw : IL w aw ws) (htn : t.length < 9223372036854775808) (hwc : ws.length ≤ cw) (hcw : cw < 9223372036854775808) :
    Calls Tryd.prog 5 #[.slice at_ t.length ct, .slice aw ws.length cw, .agg #[.string n, .string d]] w fun e w' => BA t ws n d e w' ∧ Below w.heap.size w w' := by
  by_cases hs : t.length < 2 ∨ 12 < t.length ∨ ws.length < 1 ∨ t.length ≤ ws.length
  · have BE : beC t ws n d = 2 := by unfold beC; rw [ms_size hs]; rfl
    have fin : Calls Tryd.prog 5 #[.slice at_ t.length ct, .slice aw ws.length cw, .agg #[.string n, .string d]] w (fun e w' => e = .returned (.tuple #[.agg #[.slice none 0 0, .slice none 0 0, .slice none 0 0, .slice none 0 0, .string ⟨#[]⟩, .string ⟨#[]⟩, .int .i64 0], .int .i64 2]) ∧ Below w.heap.size w w') := by
      by_cases q1 : t.length < 2
      · exact begin5_size0 q1
      by_cases q2 : 12 < t.length
      · exact begin5_size1 q2
      by_cases q3 : ws.length < 1
      · exact begin5_size2 ⟨by omega, by omega⟩ q3
      · exact begin5_size3 ⟨by omega, by omega, by omega⟩ (by omega)
    exact fin.mono (fun e w' h => ⟨Or.inl ⟨by rw [BE]; decide, by rw [BE]; exact h.1⟩, h.2⟩)
  · exact begin5_main ht hw htn hwc hcw (by omega) (by omega) (by omega) (by omega)
theorem begin4 {w : World} {ct cw : Nat} {at_ aw : Option Addr} {t ws : List Int} {n d : ByteArray} (ht : IL w at_ t) (hw : IL w aw ws) (htn : t.length < 9223372036854775808) (hwc : ws.length ≤ cw) (hcw : cw < 9223372036854775808) :
    Calls Tryd.prog 4 #[.slice at_ t.length ct, .slice aw ws.length cw, .agg #[.string n, .string d]] w fun e w' => BA t ws n d e w' ∧ Below w.heap.size w w' := by
  have zz : ∀ {k : Int}, k ≠ 0 → beC t ws n d = k → Calls Tryd.prog 4 #[.slice at_ t.length ct, .slice aw ws.length cw, .agg #[.string n, .string d]] w (fun e w' => e = .returned (.tuple #[.agg #[.slice none 0 0, .slice none 0 0, .slice none 0 0, .slice none 0 0, .string ⟨#[]⟩, .string ⟨#[]⟩, .int .i64 0], .int .i64 k]) ∧ Below w.heap.size w w') → Calls Tryd.prog 4 #[.slice at_ t.length ct, .slice aw ws.length cw, .agg #[.string n, .string d]] w (fun e w' => BA t ws n d e w' ∧ Below w.heap.size w w') := fun hk hb h => h.mono (fun e w' q => ⟨Or.inl ⟨by rw [hb]; exact hk, by rw [hb]; exact q.1⟩, q.2⟩)
  cases a1 : msB t.length ws with
  | true => exact zz (by decide) (by unfold beC; rw [a1]; rfl) (begin4_form ht hw htn hwc hcw a1)
  | false =>
    cases a2 : t.any ntB with
    | true => exact zz (by decide) (by unfold beC; rw [a1, a2]; rfl) (begin4_range ht hw htn hwc hcw a1 a2)
    | false =>
      by_cases a3 : rkC n d = 0
      · cases a4 : tieB t ws with
        | true => exact zz (by decide) (by unfold beC; rw [a1, a2, a3, a4]; rfl) (begin4_tie ht hw htn hwc hcw a1 a2 a3 a4)
        | false => exact (begin4_ok ht hw htn hwc hcw a1 a2 a3 a4).mono (fun e w' q => ⟨Or.inr ⟨by unfold beC; rw [a1, a2, a3, a4]; rfl, q.1⟩, q.2⟩)
      · exact zz a3 (by unfold beC; rw [a1, a2]; simp [a3]) (begin4_risk ht hw htn hwc hcw a1 a2 a3)
end Go.Proofs.YtflabehlaiocaaaDoor
