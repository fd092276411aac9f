/- The law WireTurns, way by way. -/
import Derived.Test.YtlogilmeefcipaaDoorPrPrint
import Derived.Test.YtlogilmeefcipaaDoorRtSame
set_option linter.unusedSimpArgs false
set_option linter.unusedVariables false
set_option maxRecDepth 100000
namespace Go.Proofs.YtlogilmeefcipaaDoor
open Go.RowKit Go.Deep Go.PlainAid

theorem GFz.keep {w w' : World} {n : Gn} {c : Value} (h : GFz w n c) (hG : ∃ a b, GAt w n a b c) (hb : Below w.heap.size w w') : GFz w' n c := by
  induction h with
  | mk lf t l adr cap c3 hcap hz hc hn ih =>
    obtain ⟨a, b, hG⟩ := hG
    generalize hc0 : Value.slice adr l.length cap = c at hG
    cases hG with
    | mk _ _ _ adr1 cap1 d1 d2 d3 hd hm =>
      simp only [Value.slice.injEq] at hc0
      obtain ⟨rfl, _, rfl⟩ := hc0
      have hlt : ∀ i, i < l.length → ∀ b o, adr = some ⟨b, o, none⟩ → b < w.heap.size := by
        intro i hi b o e
        obtain ⟨b', o', e', h1, _⟩ := hd i hi
        rw [e] at e'
        simp only [Option.some.injEq, Addr.mk.injEq, and_true] at e'
        rw [e'.1]; exact h1
      have he : ∀ i (hi : i < l.length), c3 i = d3 i := by
        intro i hi
        obtain ⟨b, o, e, h1⟩ := hc i hi
        obtain ⟨b', o', e', _, _, _, h2⟩ := hd i hi
        rw [e] at e'
        simp only [Option.some.injEq, Addr.mk.injEq, and_true] at e'
        obtain ⟨rfl, rfl⟩ := e'
        rw [h1] at h2
        exact Option.some.inj h2
      refine .mk lf t l adr cap c3 hcap ?_ ?_ (fun i hi => ih i hi ⟨_, _, by rw [he i hi]; exact hm i hi⟩)
      · intro hl
        obtain ⟨b, o, e, hf⟩ := hz hl
        refine ⟨b, o, e, ?_⟩
        rw [World.frozen?_of_block (a := ⟨b, o, none⟩) (hb.block b (hlt 0 (List.length_pos_iff.2 hl) b o e))]
        exact hf
      · intro i hi
        obtain ⟨b, o, e, h1⟩ := hc i hi
        exact ⟨b, o, e, (World.cell?_of_block (a := ⟨b, _, none⟩) (hb.block b (hlt i hi b o e))).trans h1⟩
set_option maxHeartbeats 2000000 in
theorem turns_A_no {w : World} {n : Gn} {a b c : Value} (bl : List UInt8) (hP : Pows w) (hn : GAt w n a b c) (hk : bk [n] ≤ 1048576) (hz : GFz w n c) (hbl : bl.length ≤ 1048576) (s : List UInt8) (m1 : Nd) (hr : wrs 0 [n] [] = .ok s) (hps : parsV s = (m1, 0)) (hmn : toG m1 = n) (n2 : Nd) (k2 : Nat) (hpb : parsV bl = (n2, k2)) (hk2 : k2 ≠ 0) (hb1 : (bl == [40, 41]) = false) (hb2 : (bl == [48, 58]) = false) :
    Calls Tryd.prog 4 #[.agg #[a, b, c], S bl] w fun e w' => e = .returned (.bool true) ∧ Below w.heap.size w w' := by
  have J0 : Below w.heap.size w (w.alloc (.cells #[a, b, c] 24)) := (Below.refl _ w).alloc (Nat.le_refl _) _
  have hpr := print_any (hP.keep J0) (hn.keep J0) hk (fun _ => hz.keep ⟨_, _, hn⟩ J0)
  have HN : Hid _ := hn
  have HP : Hid _ := hP
  rw [hr] at hpr
  simp only [PrE] at hpr
  clear hr hz
  have hq1 := fun W => parse_any s W
  simp only [hps, show ((0 : Nat) : Int) = 0 from rfl] at hq1
  clear hps
  have hq2 := fun W => parse_any bl W
  simp only [hpb] at hq2
  have hk2' : ((k2 : Int) != 0) = true := by simpa using hk2
  have hs1 : ¬ bl = [40, 41] := by simpa using hb1
  have hs2 : ¬ bl = [48, 58] := by simpa using hb2
  clear hpb hk2 hb1 hb2
  have B0 : Hid _ := J0
  have bN : Hid (IHolds (w.alloc (.cells #[a, b, c] 24)) w.heap.size 24 [a, b, c]) := IHolds.new' w 24 [a, b, c] rfl
  obtain ⟨ab, bb, ca, cm, cc, rfl, rfl, rfl⟩ := hn.form
  clear J0 hn hP
  go_enter Tryd.func4, Tryd.ntmps4
  go_wp2_with (first | (go_at_call 7; refine hpr.mono ?_; rintro e w1 ⟨rfl, hB1⟩; have B1 : Hid (Below w.heap.size w w1) := B0.out.trans (hB1.mono B0.out.size); have dN : Hid (IHolds w1 w.heap.size 24 [.bool ab, .string bb, .slice ca cm cc]) := bN.out.of_below hB1; have d0 : w1.cell? ⟨w.heap.size, 0, none⟩ = some (.bool ab) := dN.out.cell 0 (by simp); have d1 : w1.cell? ⟨w.heap.size, 1, none⟩ = some (.string bb) := dN.out.cell 1 (by simp); have d2 : w1.cell? ⟨w.heap.size, 2, none⟩ = some (.slice ca cm cc) := dN.out.cell 2 (by simp); clear hB1; clear hpr) | (go_at_call 8; refine (hq1 _).mono ?_; rintro e w2 ⟨hB2, x, y, z, rfl, hX⟩; obtain ⟨xb, yb, za, zm, zc, rfl, rfl, rfl⟩ := hX.form; have GX : Hid (GAt w2 n (.bool xb) (.string yb) (.slice za zm zc)) := (by have h := hX.toG; rw [hmn] at h; exact h); have Z2 : Hid (Below w.heap.size w w2) := B1.out.trans (hB2.mono B1.out.size); have GN : Hid (GAt w2 n (.bool ab) (.string bb) (.slice ca cm cc)) := HN.out.keep Z2.out; have SM : Hid (Calls Tryd.prog 9 #[.agg #[.bool xb, .string yb, .slice za zm zc], .agg #[.bool ab, .string bb, .slice ca cm cc]] (w2.alloc (.cells #[.bool xb, .string yb, .slice za zm zc] 24)) fun e w' => e = .returned (.bool true) ∧ Below (w2.alloc (.cells #[.bool xb, .string yb, .slice za zm zc] 24)).heap.size (w2.alloc (.cells #[.bool xb, .string yb, .slice za zm zc] 24)) w') := same_any GX.out hk _ _ _ GN.out _ ((Below.refl _ w2).alloc (Nat.le_refl _) _); have gN : Hid (IHolds w2 w.heap.size 24 [.bool ab, .string bb, .slice ca cm cc]) := dN.out.of_below hB2; have m1 := gN.out.lt; have m2' : ¬ w2.heap.size = w.heap.size := (by omega); have m3' : ¬ w.heap.size = w2.heap.size := (by omega); have g0 : w2.cell? ⟨w.heap.size, 0, none⟩ = some (.bool ab) := gN.out.cell 0 (by simp); have g1 : w2.cell? ⟨w.heap.size, 1, none⟩ = some (.string bb) := gN.out.cell 1 (by simp); have g2 : w2.cell? ⟨w.heap.size, 2, none⟩ = some (.slice ca cm cc) := gN.out.cell 2 (by simp); have B2 : Hid (Below w.heap.size w (w2.alloc (.cells #[.bool xb, .string yb, .slice za zm zc] 24))) := Z2.out.alloc Z2.out.size _; clear hB2 hX hq1) | (go_at_call 9; refine SM.out.mono ?_; rintro e w3 ⟨rfl, hB3⟩; have B3 : Hid (Below w.heap.size w w3) := B2.out.trans (hB3.mono B2.out.size); clear hB3) | (go_at_call 8; refine (hq2 _).mono ?_; rintro e v1 ⟨hC1, x, y, z, rfl, hX1⟩; obtain ⟨xb, yb, za, zm, zc, rfl, rfl, rfl⟩ := hX1.form; have E1 : Hid (Below w.heap.size w (v1.alloc (.cells #[.bool xb, .string yb, .slice za zm zc] 24))) := (B3.out.trans (hC1.mono B3.out.size)).alloc (Nat.le_trans B3.out.size hC1.size) _; clear hC1 hX1))
  go_ret
  exact ⟨by simp [hs1, hs2], E1.out⟩
set_option maxHeartbeats 2000000 in
theorem turns_A_yes {w : World} {n : Gn} {a b c : Value} (bl : List UInt8) (hP : Pows w) (hn : GAt w n a b c) (hk : bk [n] ≤ 1048576) (hz : GFz w n c) (hbl : bl.length ≤ 1048576) (s : List UInt8) (m1 : Nd) (hr : wrs 0 [n] [] = .ok s) (hps : parsV s = (m1, 0)) (hmn : toG m1 = n) (m2 : Nd) (hpb : parsV bl = (m2, 0)) (hw2 : wrs 0 [toG m2] [] = .ok bl) (hkb : bk [toG m2] ≤ 1048576) :
    Calls Tryd.prog 4 #[.agg #[a, b, c], S bl] w fun e w' => e = .returned (.bool true) ∧ Below w.heap.size w w' := by
  have J0 : Below w.heap.size w (w.alloc (.cells #[a, b, c] 24)) := (Below.refl _ w).alloc (Nat.le_refl _) _
  have hpr := print_any (hP.keep J0) (hn.keep J0) hk (fun _ => hz.keep ⟨_, _, hn⟩ J0)
  have HN : Hid _ := hn
  have HP : Hid _ := hP
  rw [hr] at hpr
  simp only [PrE] at hpr
  clear hr hz
  have hq1 := fun W => parse_any s W
  simp only [hps, show ((0 : Nat) : Int) = 0 from rfl] at hq1
  clear hps
  have hq2 := fun W => parse_any bl W
  simp only [hpb, show ((0 : Nat) : Int) = 0 from rfl] at hq2
  have hq3 : ∀ (W : World) (x y z : Value), Pows W → GAt W (toG m2) x y z → Calls Tryd.prog 7 #[.agg #[x, y, z]] W fun e w' => e = .returned (.tuple #[S bl, .int .i64 0]) ∧ Below W.heap.size W w' := by
    intro W x y z hp hg
    have := print_any hp hg hkb (fun h => by rw [hw2] at h; cases h)
    rw [hw2] at this
    exact this
  clear hpb hw2 hkb
  have B0 : Hid _ := J0
  have bN : Hid (IHolds (w.alloc (.cells #[a, b, c] 24)) w.heap.size 24 [a, b, c]) := IHolds.new' w 24 [a, b, c] rfl
  obtain ⟨ab, bb, ca, cm, cc, rfl, rfl, rfl⟩ := hn.form
  clear J0 hn hP
  go_enter Tryd.func4, Tryd.ntmps4
  go_wp2_with (first | (go_at_call 7; refine hpr.mono ?_; rintro e w1 ⟨rfl, hB1⟩; have B1 : Hid (Below w.heap.size w w1) := B0.out.trans (hB1.mono B0.out.size); have dN : Hid (IHolds w1 w.heap.size 24 [.bool ab, .string bb, .slice ca cm cc]) := bN.out.of_below hB1; have d0 : w1.cell? ⟨w.heap.size, 0, none⟩ = some (.bool ab) := dN.out.cell 0 (by simp); have d1 : w1.cell? ⟨w.heap.size, 1, none⟩ = some (.string bb) := dN.out.cell 1 (by simp); have d2 : w1.cell? ⟨w.heap.size, 2, none⟩ = some (.slice ca cm cc) := dN.out.cell 2 (by simp); clear hB1; clear hpr) | (go_at_call 8; refine (hq1 _).mono ?_; rintro e w2 ⟨hB2, x, y, z, rfl, hX⟩; obtain ⟨xb, yb, za, zm, zc, rfl, rfl, rfl⟩ := hX.form; have GX : Hid (GAt w2 n (.bool xb) (.string yb) (.slice za zm zc)) := (by have h := hX.toG; rw [hmn] at h; exact h); have Z2 : Hid (Below w.heap.size w w2) := B1.out.trans (hB2.mono B1.out.size); have GN : Hid (GAt w2 n (.bool ab) (.string bb) (.slice ca cm cc)) := HN.out.keep Z2.out; have SM : Hid (Calls Tryd.prog 9 #[.agg #[.bool xb, .string yb, .slice za zm zc], .agg #[.bool ab, .string bb, .slice ca cm cc]] (w2.alloc (.cells #[.bool xb, .string yb, .slice za zm zc] 24)) fun e w' => e = .returned (.bool true) ∧ Below (w2.alloc (.cells #[.bool xb, .string yb, .slice za zm zc] 24)).heap.size (w2.alloc (.cells #[.bool xb, .string yb, .slice za zm zc] 24)) w') := same_any GX.out hk _ _ _ GN.out _ ((Below.refl _ w2).alloc (Nat.le_refl _) _); have gN : Hid (IHolds w2 w.heap.size 24 [.bool ab, .string bb, .slice ca cm cc]) := dN.out.of_below hB2; have m1 := gN.out.lt; have m2' : ¬ w2.heap.size = w.heap.size := (by omega); have m3' : ¬ w.heap.size = w2.heap.size := (by omega); have g0 : w2.cell? ⟨w.heap.size, 0, none⟩ = some (.bool ab) := gN.out.cell 0 (by simp); have g1 : w2.cell? ⟨w.heap.size, 1, none⟩ = some (.string bb) := gN.out.cell 1 (by simp); have g2 : w2.cell? ⟨w.heap.size, 2, none⟩ = some (.slice ca cm cc) := gN.out.cell 2 (by simp); have B2 : Hid (Below w.heap.size w (w2.alloc (.cells #[.bool xb, .string yb, .slice za zm zc] 24))) := Z2.out.alloc Z2.out.size _; clear hB2 hX hq1) | (go_at_call 9; refine SM.out.mono ?_; rintro e w3 ⟨rfl, hB3⟩; have B3 : Hid (Below w.heap.size w w3) := B2.out.trans (hB3.mono B2.out.size); clear hB3) | (go_at_call 8; refine (hq2 _).mono ?_; rintro e v1 ⟨hC1, x, y, z, rfl, hX1⟩; obtain ⟨xb, yb, za, zm, zc, rfl, rfl, rfl⟩ := hX1.form; have E0 : Hid (Below w.heap.size w v1) := B3.out.trans (hC1.mono B3.out.size); have E1 : Hid (Below w.heap.size w (v1.alloc (.cells #[.bool xb, .string yb, .slice za zm zc] 24))) := E0.out.alloc E0.out.size _; have G1 : Hid (GAt (v1.alloc (.cells #[.bool xb, .string yb, .slice za zm zc] 24)) (toG m2) (.bool xb) (.string yb) (.slice za zm zc)) := hX1.toG.keep ((Below.refl _ v1).alloc (Nat.le_refl _) _); have P1 : Hid (Pows (v1.alloc (.cells #[.bool xb, .string yb, .slice za zm zc] 24))) := Pows.keep HP.out E1.out; clear hC1 hX1) | (go_at_call 7; refine (hq3 _ _ _ _ P1.out G1.out).mono ?_; rintro e v2 ⟨rfl, hC2⟩; have E2 : Hid (Below w.heap.size w v2) := E1.out.trans (hC2.mono E1.out.size); clear hC2))
  go_ret
  exact ⟨by simp, E2.out⟩
set_option maxHeartbeats 2000000 in
theorem turns_B1_no {w : World} {n : Gn} {a b c : Value} (bl : List UInt8) (hP : Pows w) (hn : GAt w n a b c) (hk : bk [n] ≤ 1048576) (hz : GFz w n c) (hbl : bl.length ≤ 1048576) (k3 : Nat) (hr : wrs 0 [n] [] = .err k3) (hg : goods [n] = false) (n2 : Nd) (k2 : Nat) (hpb : parsV bl = (n2, k2)) (hk2 : k2 ≠ 0) (hb1 : (bl == [40, 41]) = false) (hb2 : (bl == [48, 58]) = false) :
    Calls Tryd.prog 4 #[.agg #[a, b, c], S bl] w fun e w' => e = .returned (.bool true) ∧ Below w.heap.size w w' := by
  have J0 : Below w.heap.size w (w.alloc (.cells #[a, b, c] 24)) := (Below.refl _ w).alloc (Nat.le_refl _) _
  have hpr := print_any (hP.keep J0) (hn.keep J0) hk (fun _ => hz.keep ⟨_, _, hn⟩ J0)
  have HN : Hid _ := hn
  have HP : Hid _ := hP
  rw [hr] at hpr
  simp only [PrE] at hpr
  clear hr hz
  have hG := good_any HN.out hk
  rw [hg] at hG
  clear hg
  have hq2 := fun W => parse_any bl W
  simp only [hpb] at hq2
  have hk2' : ((k2 : Int) != 0) = true := by simpa using hk2
  have hs1 : ¬ bl = [40, 41] := by simpa using hb1
  have hs2 : ¬ bl = [48, 58] := by simpa using hb2
  clear hpb hk2 hb1 hb2
  have B0 : Hid _ := J0
  have bN : Hid (IHolds (w.alloc (.cells #[a, b, c] 24)) w.heap.size 24 [a, b, c]) := IHolds.new' w 24 [a, b, c] rfl
  obtain ⟨ab, bb, ca, cm, cc, rfl, rfl, rfl⟩ := hn.form
  clear J0 hn hP
  go_enter Tryd.func4, Tryd.ntmps4
  go_wp2_with (first | (go_at_call 7; refine hpr.mono ?_; rintro e w1 ⟨⟨k, hk0, rfl⟩, hB1⟩; have hk0' : ((k : Int) == 0) = false := (by simpa using hk0); have B1 : Hid (Below w.heap.size w w1) := B0.out.trans (hB1.mono B0.out.size); have dN : Hid (IHolds w1 w.heap.size 24 [.bool ab, .string bb, .slice ca cm cc]) := bN.out.of_below hB1; have d0 : w1.cell? ⟨w.heap.size, 0, none⟩ = some (.bool ab) := dN.out.cell 0 (by simp); have d1 : w1.cell? ⟨w.heap.size, 1, none⟩ = some (.string bb) := dN.out.cell 1 (by simp); have d2 : w1.cell? ⟨w.heap.size, 2, none⟩ = some (.slice ca cm cc) := dN.out.cell 2 (by simp); clear hB1; clear hk0 hpr) | (go_at_call 10; refine (hG _ B1.out).mono ?_; rintro e w2 ⟨rfl, hB2⟩; have B2 : Hid (Below w.heap.size w w2) := B1.out.trans (hB2.mono B1.out.size); clear hB2) | (go_at_call 8; refine (hq2 _).mono ?_; rintro e v1 ⟨hC1, x, y, z, rfl, hX1⟩; obtain ⟨xb, yb, za, zm, zc, rfl, rfl, rfl⟩ := hX1.form; have E1 : Hid (Below w.heap.size w (v1.alloc (.cells #[.bool xb, .string yb, .slice za zm zc] 24))) := (B2.out.trans (hC1.mono B2.out.size)).alloc (Nat.le_trans B2.out.size hC1.size) _; clear hC1 hX1))
  go_ret
  exact ⟨by simp [hs1, hs2], E1.out⟩
set_option maxHeartbeats 2000000 in
theorem turns_B1_yes {w : World} {n : Gn} {a b c : Value} (bl : List UInt8) (hP : Pows w) (hn : GAt w n a b c) (hk : bk [n] ≤ 1048576) (hz : GFz w n c) (hbl : bl.length ≤ 1048576) (k3 : Nat) (hr : wrs 0 [n] [] = .err k3) (hg : goods [n] = false) (m2 : Nd) (hpb : parsV bl = (m2, 0)) (hw2 : wrs 0 [toG m2] [] = .ok bl) (hkb : bk [toG m2] ≤ 1048576) :
    Calls Tryd.prog 4 #[.agg #[a, b, c], S bl] w fun e w' => e = .returned (.bool true) ∧ Below w.heap.size w w' := by
  have J0 : Below w.heap.size w (w.alloc (.cells #[a, b, c] 24)) := (Below.refl _ w).alloc (Nat.le_refl _) _
  have hpr := print_any (hP.keep J0) (hn.keep J0) hk (fun _ => hz.keep ⟨_, _, hn⟩ J0)
  have HN : Hid _ := hn
  have HP : Hid _ := hP
  rw [hr] at hpr
  simp only [PrE] at hpr
  clear hr hz
  have hG := good_any HN.out hk
  rw [hg] at hG
  clear hg
  have hq2 := fun W => parse_any bl W
  simp only [hpb, show ((0 : Nat) : Int) = 0 from rfl] at hq2
  have hq3 : ∀ (W : World) (x y z : Value), Pows W → GAt W (toG m2) x y z → Calls Tryd.prog 7 #[.agg #[x, y, z]] W fun e w' => e = .returned (.tuple #[S bl, .int .i64 0]) ∧ Below W.heap.size W w' := by
    intro W x y z hp hg
    have := print_any hp hg hkb (fun h => by rw [hw2] at h; cases h)
    rw [hw2] at this
    exact this
  clear hpb hw2 hkb
  have B0 : Hid _ := J0
  have bN : Hid (IHolds (w.alloc (.cells #[a, b, c] 24)) w.heap.size 24 [a, b, c]) := IHolds.new' w 24 [a, b, c] rfl
  obtain ⟨ab, bb, ca, cm, cc, rfl, rfl, rfl⟩ := hn.form
  clear J0 hn hP
  go_enter Tryd.func4, Tryd.ntmps4
  go_wp2_with (first | (go_at_call 7; refine hpr.mono ?_; rintro e w1 ⟨⟨k, hk0, rfl⟩, hB1⟩; have hk0' : ((k : Int) == 0) = false := (by simpa using hk0); have B1 : Hid (Below w.heap.size w w1) := B0.out.trans (hB1.mono B0.out.size); have dN : Hid (IHolds w1 w.heap.size 24 [.bool ab, .string bb, .slice ca cm cc]) := bN.out.of_below hB1; have d0 : w1.cell? ⟨w.heap.size, 0, none⟩ = some (.bool ab) := dN.out.cell 0 (by simp); have d1 : w1.cell? ⟨w.heap.size, 1, none⟩ = some (.string bb) := dN.out.cell 1 (by simp); have d2 : w1.cell? ⟨w.heap.size, 2, none⟩ = some (.slice ca cm cc) := dN.out.cell 2 (by simp); clear hB1; clear hk0 hpr) | (go_at_call 10; refine (hG _ B1.out).mono ?_; rintro e w2 ⟨rfl, hB2⟩; have B2 : Hid (Below w.heap.size w w2) := B1.out.trans (hB2.mono B1.out.size); clear hB2) | (go_at_call 8; refine (hq2 _).mono ?_; rintro e v1 ⟨hC1, x, y, z, rfl, hX1⟩; obtain ⟨xb, yb, za, zm, zc, rfl, rfl, rfl⟩ := hX1.form; have E0 : Hid (Below w.heap.size w v1) := B2.out.trans (hC1.mono B2.out.size); have E1 : Hid (Below w.heap.size w (v1.alloc (.cells #[.bool xb, .string yb, .slice za zm zc] 24))) := E0.out.alloc E0.out.size _; have G1 : Hid (GAt (v1.alloc (.cells #[.bool xb, .string yb, .slice za zm zc] 24)) (toG m2) (.bool xb) (.string yb) (.slice za zm zc)) := hX1.toG.keep ((Below.refl _ v1).alloc (Nat.le_refl _) _); have P1 : Hid (Pows (v1.alloc (.cells #[.bool xb, .string yb, .slice za zm zc] 24))) := Pows.keep HP.out E1.out; clear hC1 hX1) | (go_at_call 7; refine (hq3 _ _ _ _ P1.out G1.out).mono ?_; rintro e v2 ⟨rfl, hC2⟩; have E2 : Hid (Below w.heap.size w v2) := E1.out.trans (hC2.mono E1.out.size); clear hC2))
  go_ret
  exact ⟨by simp, E2.out⟩
set_option maxHeartbeats 2000000 in
theorem turns_B2_no {w : World} {n : Gn} {a b c : Value} (bl : List UInt8) (hP : Pows w) (hn : GAt w n a b c) (hk : bk [n] ≤ 1048576) (hz : GFz w n c) (hbl : bl.length ≤ 1048576) (k3 : Nat) (hr : wrs 0 [n] [] = .err k3) (hg : goods [n] = true) (hd : 3 ≤ deps [n]) (n2 : Nd) (k2 : Nat) (hpb : parsV bl = (n2, k2)) (hk2 : k2 ≠ 0) (hb1 : (bl == [40, 41]) = false) (hb2 : (bl == [48, 58]) = false) :
    Calls Tryd.prog 4 #[.agg #[a, b, c], S bl] w fun e w' => e = .returned (.bool true) ∧ Below w.heap.size w w' := by
  have J0 : Below w.heap.size w (w.alloc (.cells #[a, b, c] 24)) := (Below.refl _ w).alloc (Nat.le_refl _) _
  have hpr := print_any (hP.keep J0) (hn.keep J0) hk (fun _ => hz.keep ⟨_, _, hn⟩ J0)
  have HN : Hid _ := hn
  have HP : Hid _ := hP
  rw [hr] at hpr
  simp only [PrE] at hpr
  clear hr hz
  have hG := good_any HN.out hk
  have hD := depth_any HN.out hk hg
  rw [hg] at hG
  have hd' : ¬ ((deps [n] : Nat) : Int) < 3 := by omega
  clear hg hd
  generalize deps [n] = dn at *
  have hq2 := fun W => parse_any bl W
  simp only [hpb] at hq2
  have hk2' : ((k2 : Int) != 0) = true := by simpa using hk2
  have hs1 : ¬ bl = [40, 41] := by simpa using hb1
  have hs2 : ¬ bl = [48, 58] := by simpa using hb2
  clear hpb hk2 hb1 hb2
  have B0 : Hid _ := J0
  have bN : Hid (IHolds (w.alloc (.cells #[a, b, c] 24)) w.heap.size 24 [a, b, c]) := IHolds.new' w 24 [a, b, c] rfl
  obtain ⟨ab, bb, ca, cm, cc, rfl, rfl, rfl⟩ := hn.form
  clear J0 hn hP
  go_enter Tryd.func4, Tryd.ntmps4
  go_wp2_with (first | (go_at_call 7; refine hpr.mono ?_; rintro e w1 ⟨⟨k, hk0, rfl⟩, hB1⟩; have hk0' : ((k : Int) == 0) = false := (by simpa using hk0); have B1 : Hid (Below w.heap.size w w1) := B0.out.trans (hB1.mono B0.out.size); have dN : Hid (IHolds w1 w.heap.size 24 [.bool ab, .string bb, .slice ca cm cc]) := bN.out.of_below hB1; have d0 : w1.cell? ⟨w.heap.size, 0, none⟩ = some (.bool ab) := dN.out.cell 0 (by simp); have d1 : w1.cell? ⟨w.heap.size, 1, none⟩ = some (.string bb) := dN.out.cell 1 (by simp); have d2 : w1.cell? ⟨w.heap.size, 2, none⟩ = some (.slice ca cm cc) := dN.out.cell 2 (by simp); clear hB1; clear hk0 hpr) | (go_at_call 10; refine (hG _ B1.out).mono ?_; rintro e w2 ⟨rfl, hB2⟩; have B2 : Hid (Below w.heap.size w w2) := B1.out.trans (hB2.mono B1.out.size); have gN : Hid (IHolds w2 w.heap.size 24 [.bool ab, .string bb, .slice ca cm cc]) := dN.out.of_below hB2; have g0 : w2.cell? ⟨w.heap.size, 0, none⟩ = some (.bool ab) := gN.out.cell 0 (by simp); have g1 : w2.cell? ⟨w.heap.size, 1, none⟩ = some (.string bb) := gN.out.cell 1 (by simp); have g2 : w2.cell? ⟨w.heap.size, 2, none⟩ = some (.slice ca cm cc) := gN.out.cell 2 (by simp); clear hB2) | (go_at_call 11; refine (hD _ B2.out).mono ?_; rintro e w3 ⟨rfl, hB3⟩; have B3 : Hid (Below w.heap.size w w3) := B2.out.trans (hB3.mono B2.out.size); clear hB3) | (go_at_call 8; refine (hq2 _).mono ?_; rintro e v1 ⟨hC1, x, y, z, rfl, hX1⟩; obtain ⟨xb, yb, za, zm, zc, rfl, rfl, rfl⟩ := hX1.form; have E1 : Hid (Below w.heap.size w (v1.alloc (.cells #[.bool xb, .string yb, .slice za zm zc] 24))) := (B3.out.trans (hC1.mono B3.out.size)).alloc (Nat.le_trans B3.out.size hC1.size) _; clear hC1 hX1))
  go_ret
  exact ⟨by simp [hs1, hs2], E1.out⟩
set_option maxHeartbeats 2000000 in
theorem turns_B2_yes {w : World} {n : Gn} {a b c : Value} (bl : List UInt8) (hP : Pows w) (hn : GAt w n a b c) (hk : bk [n] ≤ 1048576) (hz : GFz w n c) (hbl : bl.length ≤ 1048576) (k3 : Nat) (hr : wrs 0 [n] [] = .err k3) (hg : goods [n] = true) (hd : 3 ≤ deps [n]) (m2 : Nd) (hpb : parsV bl = (m2, 0)) (hw2 : wrs 0 [toG m2] [] = .ok bl) (hkb : bk [toG m2] ≤ 1048576) :
    Calls Tryd.prog 4 #[.agg #[a, b, c], S bl] w fun e w' => e = .returned (.bool true) ∧ Below w.heap.size w w' := by
  have J0 : Below w.heap.size w (w.alloc (.cells #[a, b, c] 24)) := (Below.refl _ w).alloc (Nat.le_refl _) _
  have hpr := print_any (hP.keep J0) (hn.keep J0) hk (fun _ => hz.keep ⟨_, _, hn⟩ J0)
  have HN : Hid _ := hn
  have HP : Hid _ := hP
  rw [hr] at hpr
  simp only [PrE] at hpr
  clear hr hz
  have hG := good_any HN.out hk
  have hD := depth_any HN.out hk hg
  rw [hg] at hG
  have hd' : ¬ ((deps [n] : Nat) : Int) < 3 := by omega
  clear hg hd
  generalize deps [n] = dn at *
  have hq2 := fun W => parse_any bl W
  simp only [hpb, show ((0 : Nat) : Int) = 0 from rfl] at hq2
  have hq3 : ∀ (W : World) (x y z : Value), Pows W → GAt W (toG m2) x y z → Calls Tryd.prog 7 #[.agg #[x, y, z]] W fun e w' => e = .returned (.tuple #[S bl, .int .i64 0]) ∧ Below W.heap.size W w' := by
    intro W x y z hp hg
    have := print_any hp hg hkb (fun h => by rw [hw2] at h; cases h)
    rw [hw2] at this
    exact this
  clear hpb hw2 hkb
  have B0 : Hid _ := J0
  have bN : Hid (IHolds (w.alloc (.cells #[a, b, c] 24)) w.heap.size 24 [a, b, c]) := IHolds.new' w 24 [a, b, c] rfl
  obtain ⟨ab, bb, ca, cm, cc, rfl, rfl, rfl⟩ := hn.form
  clear J0 hn hP
  go_enter Tryd.func4, Tryd.ntmps4
  go_wp2_with (first | (go_at_call 7; refine hpr.mono ?_; rintro e w1 ⟨⟨k, hk0, rfl⟩, hB1⟩; have hk0' : ((k : Int) == 0) = false := (by simpa using hk0); have B1 : Hid (Below w.heap.size w w1) := B0.out.trans (hB1.mono B0.out.size); have dN : Hid (IHolds w1 w.heap.size 24 [.bool ab, .string bb, .slice ca cm cc]) := bN.out.of_below hB1; have d0 : w1.cell? ⟨w.heap.size, 0, none⟩ = some (.bool ab) := dN.out.cell 0 (by simp); have d1 : w1.cell? ⟨w.heap.size, 1, none⟩ = some (.string bb) := dN.out.cell 1 (by simp); have d2 : w1.cell? ⟨w.heap.size, 2, none⟩ = some (.slice ca cm cc) := dN.out.cell 2 (by simp); clear hB1; clear hk0 hpr) | (go_at_call 10; refine (hG _ B1.out).mono ?_; rintro e w2 ⟨rfl, hB2⟩; have B2 : Hid (Below w.heap.size w w2) := B1.out.trans (hB2.mono B1.out.size); have gN : Hid (IHolds w2 w.heap.size 24 [.bool ab, .string bb, .slice ca cm cc]) := dN.out.of_below hB2; have g0 : w2.cell? ⟨w.heap.size, 0, none⟩ = some (.bool ab) := gN.out.cell 0 (by simp); have g1 : w2.cell? ⟨w.heap.size, 1, none⟩ = some (.string bb) := gN.out.cell 1 (by simp); have g2 : w2.cell? ⟨w.heap.size, 2, none⟩ = some (.slice ca cm cc) := gN.out.cell 2 (by simp); clear hB2) | (go_at_call 11; refine (hD _ B2.out).mono ?_; rintro e w3 ⟨rfl, hB3⟩; have B3 : Hid (Below w.heap.size w w3) := B2.out.trans (hB3.mono B2.out.size); clear hB3) | (go_at_call 8; refine (hq2 _).mono ?_; rintro e v1 ⟨hC1, x, y, z, rfl, hX1⟩; obtain ⟨xb, yb, za, zm, zc, rfl, rfl, rfl⟩ := hX1.form; have E0 : Hid (Below w.heap.size w v1) := B3.out.trans (hC1.mono B3.out.size); have E1 : Hid (Below w.heap.size w (v1.alloc (.cells #[.bool xb, .string yb, .slice za zm zc] 24))) := E0.out.alloc E0.out.size _; have G1 : Hid (GAt (v1.alloc (.cells #[.bool xb, .string yb, .slice za zm zc] 24)) (toG m2) (.bool xb) (.string yb) (.slice za zm zc)) := hX1.toG.keep ((Below.refl _ v1).alloc (Nat.le_refl _) _); have P1 : Hid (Pows (v1.alloc (.cells #[.bool xb, .string yb, .slice za zm zc] 24))) := Pows.keep HP.out E1.out; clear hC1 hX1) | (go_at_call 7; refine (hq3 _ _ _ _ P1.out G1.out).mono ?_; rintro e v2 ⟨rfl, hC2⟩; have E2 : Hid (Below w.heap.size w v2) := E1.out.trans (hC2.mono E1.out.size); clear hC2))
  go_ret
  exact ⟨by simp, E2.out⟩
set_option maxHeartbeats 2000000 in
theorem turns_B3_no {w : World} {n : Gn} {a b c : Value} (bl : List UInt8) (hP : Pows w) (hn : GAt w n a b c) (hk : bk [n] ≤ 1048576) (hz : GFz w n c) (hbl : bl.length ≤ 1048576) (k3 : Nat) (hr : wrs 0 [n] [] = .err k3) (hg : goods [n] = true) (hd : deps [n] < 3) (hs : 1000 ≤ (wrts [n]).length) (n2 : Nd) (k2 : Nat) (hpb : parsV bl = (n2, k2)) (hk2 : k2 ≠ 0) (hb1 : (bl == [40, 41]) = false) (hb2 : (bl == [48, 58]) = false) :
    Calls Tryd.prog 4 #[.agg #[a, b, c], S bl] w fun e w' => e = .returned (.bool true) ∧ Below w.heap.size w w' := by
  have J0 : Below w.heap.size w (w.alloc (.cells #[a, b, c] 24)) := (Below.refl _ w).alloc (Nat.le_refl _) _
  have hpr := print_any (hP.keep J0) (hn.keep J0) hk (fun _ => hz.keep ⟨_, _, hn⟩ J0)
  have HN : Hid _ := hn
  have HP : Hid _ := hP
  rw [hr] at hpr
  simp only [PrE] at hpr
  clear hr hz
  have hG := good_any HN.out hk
  have hD := depth_any HN.out hk hg
  have hS := sizeN_any HN.out hk hg
  rw [hg] at hG
  have hd' : ((deps [n] : Nat) : Int) < 3 := by omega
  have hs' : ¬ (((wrts [n]).length : Nat) : Int) < 1000 := by omega
  clear hg hd hs
  generalize deps [n] = dn at *
  generalize (wrts [n]).length = sn at *
  have hq2 := fun W => parse_any bl W
  simp only [hpb] at hq2
  have hk2' : ((k2 : Int) != 0) = true := by simpa using hk2
  have hs1 : ¬ bl = [40, 41] := by simpa using hb1
  have hs2 : ¬ bl = [48, 58] := by simpa using hb2
  clear hpb hk2 hb1 hb2
  have B0 : Hid _ := J0
  have bN : Hid (IHolds (w.alloc (.cells #[a, b, c] 24)) w.heap.size 24 [a, b, c]) := IHolds.new' w 24 [a, b, c] rfl
  obtain ⟨ab, bb, ca, cm, cc, rfl, rfl, rfl⟩ := hn.form
  clear J0 hn hP
  go_enter Tryd.func4, Tryd.ntmps4
  go_wp2_with (first | (go_at_call 7; refine hpr.mono ?_; rintro e w1 ⟨⟨k, hk0, rfl⟩, hB1⟩; have hk0' : ((k : Int) == 0) = false := (by simpa using hk0); have B1 : Hid (Below w.heap.size w w1) := B0.out.trans (hB1.mono B0.out.size); have dN : Hid (IHolds w1 w.heap.size 24 [.bool ab, .string bb, .slice ca cm cc]) := bN.out.of_below hB1; have d0 : w1.cell? ⟨w.heap.size, 0, none⟩ = some (.bool ab) := dN.out.cell 0 (by simp); have d1 : w1.cell? ⟨w.heap.size, 1, none⟩ = some (.string bb) := dN.out.cell 1 (by simp); have d2 : w1.cell? ⟨w.heap.size, 2, none⟩ = some (.slice ca cm cc) := dN.out.cell 2 (by simp); clear hB1; clear hk0 hpr) | (go_at_call 10; refine (hG _ B1.out).mono ?_; rintro e w2 ⟨rfl, hB2⟩; have B2 : Hid (Below w.heap.size w w2) := B1.out.trans (hB2.mono B1.out.size); have gN : Hid (IHolds w2 w.heap.size 24 [.bool ab, .string bb, .slice ca cm cc]) := dN.out.of_below hB2; have g0 : w2.cell? ⟨w.heap.size, 0, none⟩ = some (.bool ab) := gN.out.cell 0 (by simp); have g1 : w2.cell? ⟨w.heap.size, 1, none⟩ = some (.string bb) := gN.out.cell 1 (by simp); have g2 : w2.cell? ⟨w.heap.size, 2, none⟩ = some (.slice ca cm cc) := gN.out.cell 2 (by simp); clear hB2) | (go_at_call 11; refine (hD _ B2.out).mono ?_; rintro e w3 ⟨rfl, hB3⟩; have B3 : Hid (Below w.heap.size w w3) := B2.out.trans (hB3.mono B2.out.size); have jN : Hid (IHolds w3 w.heap.size 24 [.bool ab, .string bb, .slice ca cm cc]) := gN.out.of_below hB3; have j0 : w3.cell? ⟨w.heap.size, 0, none⟩ = some (.bool ab) := jN.out.cell 0 (by simp); have j1 : w3.cell? ⟨w.heap.size, 1, none⟩ = some (.string bb) := jN.out.cell 1 (by simp); have j2 : w3.cell? ⟨w.heap.size, 2, none⟩ = some (.slice ca cm cc) := jN.out.cell 2 (by simp); clear hB3) | (go_at_call 12; refine (hS _ B3.out).mono ?_; rintro e w4 ⟨rfl, hB4⟩; have B4 : Hid (Below w.heap.size w w4) := B3.out.trans (hB4.mono B3.out.size); clear hB4) | (go_at_call 8; refine (hq2 _).mono ?_; rintro e v1 ⟨hC1, x, y, z, rfl, hX1⟩; obtain ⟨xb, yb, za, zm, zc, rfl, rfl, rfl⟩ := hX1.form; have E1 : Hid (Below w.heap.size w (v1.alloc (.cells #[.bool xb, .string yb, .slice za zm zc] 24))) := (B4.out.trans (hC1.mono B4.out.size)).alloc (Nat.le_trans B4.out.size hC1.size) _; clear hC1 hX1))
  go_ret
  exact ⟨by simp [hs1, hs2], E1.out⟩
set_option maxHeartbeats 2000000 in
theorem turns_B3_yes {w : World} {n : Gn} {a b c : Value} (bl : List UInt8) (hP : Pows w) (hn : GAt w n a b c) (hk : bk [n] ≤ 1048576) (hz : GFz w n c) (hbl : bl.length ≤ 1048576) (k3 : Nat) (hr : wrs 0 [n] [] = .err k3) (hg : goods [n] = true) (hd : deps [n] < 3) (hs : 1000 ≤ (wrts [n]).length) (m2 : Nd) (hpb : parsV bl = (m2, 0)) (hw2 : wrs 0 [toG m2] [] = .ok bl) (hkb : bk [toG m2] ≤ 1048576) :
    Calls Tryd.prog 4 #[.agg #[a, b, c], S bl] w fun e w' => e = .returned (.bool true) ∧ Below w.heap.size w w' := by
  have J0 : Below w.heap.size w (w.alloc (.cells #[a, b, c] 24)) := (Below.refl _ w).alloc (Nat.le_refl _) _
  have hpr := print_any (hP.keep J0) (hn.keep J0) hk (fun _ => hz.keep ⟨_, _, hn⟩ J0)
  have HN : Hid _ := hn
  have HP : Hid _ := hP
  rw [hr] at hpr
  simp only [PrE] at hpr
  clear hr hz
  have hG := good_any HN.out hk
  have hD := depth_any HN.out hk hg
  have hS := sizeN_any HN.out hk hg
  rw [hg] at hG
  have hd' : ((deps [n] : Nat) : Int) < 3 := by omega
  have hs' : ¬ (((wrts [n]).length : Nat) : Int) < 1000 := by omega
  clear hg hd hs
  generalize deps [n] = dn at *
  generalize (wrts [n]).length = sn at *
  have hq2 := fun W => parse_any bl W
  simp only [hpb, show ((0 : Nat) : Int) = 0 from rfl] at hq2
  have hq3 : ∀ (W : World) (x y z : Value), Pows W → GAt W (toG m2) x y z → Calls Tryd.prog 7 #[.agg #[x, y, z]] W fun e w' => e = .returned (.tuple #[S bl, .int .i64 0]) ∧ Below W.heap.size W w' := by
    intro W x y z hp hg
    have := print_any hp hg hkb (fun h => by rw [hw2] at h; cases h)
    rw [hw2] at this
    exact this
  clear hpb hw2 hkb
  have B0 : Hid _ := J0
  have bN : Hid (IHolds (w.alloc (.cells #[a, b, c] 24)) w.heap.size 24 [a, b, c]) := IHolds.new' w 24 [a, b, c] rfl
  obtain ⟨ab, bb, ca, cm, cc, rfl, rfl, rfl⟩ := hn.form
  clear J0 hn hP
  go_enter Tryd.func4, Tryd.ntmps4
  go_wp2_with (first | (go_at_call 7; refine hpr.mono ?_; rintro e w1 ⟨⟨k, hk0, rfl⟩, hB1⟩; have hk0' : ((k : Int) == 0) = false := (by simpa using hk0); have B1 : Hid (Below w.heap.size w w1) := B0.out.trans (hB1.mono B0.out.size); have dN : Hid (IHolds w1 w.heap.size 24 [.bool ab, .string bb, .slice ca cm cc]) := bN.out.of_below hB1; have d0 : w1.cell? ⟨w.heap.size, 0, none⟩ = some (.bool ab) := dN.out.cell 0 (by simp); have d1 : w1.cell? ⟨w.heap.size, 1, none⟩ = some (.string bb) := dN.out.cell 1 (by simp); have d2 : w1.cell? ⟨w.heap.size, 2, none⟩ = some (.slice ca cm cc) := dN.out.cell 2 (by simp); clear hB1; clear hk0 hpr) | (go_at_call 10; refine (hG _ B1.out).mono ?_; rintro e w2 ⟨rfl, hB2⟩; have B2 : Hid (Below w.heap.size w w2) := B1.out.trans (hB2.mono B1.out.size); have gN : Hid (IHolds w2 w.heap.size 24 [.bool ab, .string bb, .slice ca cm cc]) := dN.out.of_below hB2; have g0 : w2.cell? ⟨w.heap.size, 0, none⟩ = some (.bool ab) := gN.out.cell 0 (by simp); have g1 : w2.cell? ⟨w.heap.size, 1, none⟩ = some (.string bb) := gN.out.cell 1 (by simp); have g2 : w2.cell? ⟨w.heap.size, 2, none⟩ = some (.slice ca cm cc) := gN.out.cell 2 (by simp); clear hB2) | (go_at_call 11; refine (hD _ B2.out).mono ?_; rintro e w3 ⟨rfl, hB3⟩; have B3 : Hid (Below w.heap.size w w3) := B2.out.trans (hB3.mono B2.out.size); have jN : Hid (IHolds w3 w.heap.size 24 [.bool ab, .string bb, .slice ca cm cc]) := gN.out.of_below hB3; have j0 : w3.cell? ⟨w.heap.size, 0, none⟩ = some (.bool ab) := jN.out.cell 0 (by simp); have j1 : w3.cell? ⟨w.heap.size, 1, none⟩ = some (.string bb) := jN.out.cell 1 (by simp); have j2 : w3.cell? ⟨w.heap.size, 2, none⟩ = some (.slice ca cm cc) := jN.out.cell 2 (by simp); clear hB3) | (go_at_call 12; refine (hS _ B3.out).mono ?_; rintro e w4 ⟨rfl, hB4⟩; have B4 : Hid (Below w.heap.size w w4) := B3.out.trans (hB4.mono B3.out.size); clear hB4) | (go_at_call 8; refine (hq2 _).mono ?_; rintro e v1 ⟨hC1, x, y, z, rfl, hX1⟩; obtain ⟨xb, yb, za, zm, zc, rfl, rfl, rfl⟩ := hX1.form; have E0 : Hid (Below w.heap.size w v1) := B4.out.trans (hC1.mono B4.out.size); have E1 : Hid (Below w.heap.size w (v1.alloc (.cells #[.bool xb, .string yb, .slice za zm zc] 24))) := E0.out.alloc E0.out.size _; have G1 : Hid (GAt (v1.alloc (.cells #[.bool xb, .string yb, .slice za zm zc] 24)) (toG m2) (.bool xb) (.string yb) (.slice za zm zc)) := hX1.toG.keep ((Below.refl _ v1).alloc (Nat.le_refl _) _); have P1 : Hid (Pows (v1.alloc (.cells #[.bool xb, .string yb, .slice za zm zc] 24))) := Pows.keep HP.out E1.out; clear hC1 hX1) | (go_at_call 7; refine (hq3 _ _ _ _ P1.out G1.out).mono ?_; rintro e v2 ⟨rfl, hC2⟩; have E2 : Hid (Below w.heap.size w v2) := E1.out.trans (hC2.mono E1.out.size); clear hC2))
  go_ret
  exact ⟨by simp, E2.out⟩
end Go.Proofs.YtlogilmeefcipaaDoor
