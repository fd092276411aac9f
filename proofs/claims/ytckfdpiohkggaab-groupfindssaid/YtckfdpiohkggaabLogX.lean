/- Logarithms by steps: the walk. -/
import Derived.Test.YtckfdpiohkggaabLogMX
set_option linter.unusedSimpArgs false
set_option linter.unusedVariables false
namespace Go.Proofs.Ytckfdpiohkggaab
open Go.RowKit Go.Deep Go.PlainAid Go.Maps

section
variable {z : Int} {G : Array Value} {S Wd M low one sq Ri Wd2 M2 low2 one2 sq2 Ri2 : Nat}
set_option maxRecDepth 100000 in
set_option maxHeartbeats 2000000 in
theorem log_any (k : KD z G S Wd M low one sq Ri Wd2 M2 low2 one2 sq2 Ri2) (hp : IsP M2) {w : World} {g : Nat} (F : Hid (GH w g S Wd M low one sq Wd2 M2 low2 one2 sq2)) {A most : Nat} (A9 : A ≤ M) (m9 : most ≤ 1048576) :
    Calls Try.prog 49 #[.pointer (some ⟨g, 0, none⟩), A4 A, .int .i64 (most : Int)] w fun e w' => (∃ r c : Int, e = .returned (.tuple #[.int .i64 r, .int .i64 c]) ∧ LogP M M2 A most r c) ∧ Below w.heap.size w w' := by
  obtain ⟨R, hR⟩ : ∃ R, R = BB ^ Wd2 := ⟨_, rfl⟩
  have hm := k.m2
  have C100 : Hid (∀ W (s : Nat), GH W g S Wd M low one sq Wd2 M2 low2 one2 sq2 → s ≤ 2000 → Calls Try.prog 67 #[.pointer (some ⟨g, 0, none⟩), .int .i64 (s : Int)] W fun e w' => (∃ (bm : Nat) (D : DataW Unit), e = .returned (.tuple #[.map (some bm), A4 (2 ^ s * R % M2)]) ∧ w'.ownsMap Try.prog 41 (plainElem Try.prog 3) bm s D ∧ MapR D (fpw M M2 R) s) ∧ Below W.heap.size W w') := fun W s hF hs => by rw [hR]; exact first_any k hF (by omega)
  have C101 : Hid (∀ W s, GH W g S Wd M low one sq Wd2 M2 low2 one2 sq2 → Calls Try.prog 68 #[.pointer (some ⟨g, 15, none⟩), A4 (2 ^ s * R % M2)] W fun e w' => e = .returned (A4 (2 ^ s % M2)) ∧ Below W.heap.size W w') := fun W s hF => by rw [hR]; exact leaveA hF.fe k.fl2
  have C89 : Hid (∀ W s, GH W g S Wd M low one sq Wd2 M2 low2 one2 sq2 → Calls Try.prog 59 #[.pointer (some ⟨g, 15, none⟩), A4 (2 ^ s % M2)] W fun e w' => e = .returned (A4 ((2 ^ s % M2) ^ (M2 - 2) % M2)) ∧ Below W.heap.size W w') := fun W s hF => finverseA hF.fe k.fl2 (k.fl2.in_mod _)
  have C95 : Hid (∀ W x, GH W g S Wd M low one sq Wd2 M2 low2 one2 sq2 → x < M2 → Calls Try.prog 63 #[.pointer (some ⟨g, 15, none⟩), A4 x] W fun e w' => e = .returned (A4 (x * R % M2)) ∧ Below W.heap.size W w') := fun W x hF hx => by rw [hR]; exact enterA hF.fe k.fl2 (k.fl2.in_words hx)
  have C102 : Hid (∀ W x, GH W g S Wd M low one sq Wd2 M2 low2 one2 sq2 → Calls Try.prog 69 #[.pointer (some ⟨g, 0, none⟩), A4 (x % M2)] W fun e w' => e = .returned (A4 (sgn M M2 (x % M2))) ∧ Below W.heap.size W w') := fun W x hF => signedA k hF (k.mod2 _)
  have C85 : Hid (∀ W x y, GH W g S Wd M low one sq Wd2 M2 low2 one2 sq2 → Calls Try.prog 54 #[.pointer (some ⟨g, 15, none⟩), A4 (x * R % M2), A4 (y * R % M2)] W fun e w' => e = .returned (A4 (x * y * R % M2)) ∧ Below W.heap.size W w') := fun W x y hF => by rw [hR]; exact joined_both hF.fe k.fl2
  have HRi : Hid (R * Ri2 % M2 = 1) := by show _ = _; rw [hR]; exact k.fl2.i
  have HIV : Hid (∀ s, (2 ^ s % M2) ^ (M2 - 2) % M2 * 2 ^ s % M2 = 1) := fun s => inv_step hp (by have := k.m21; omega)
  have He2 : Hid (M2 = 2 * M + 1) := k.m21
  have HM1 : Hid (1 ≤ M) := by show _ ≤ _; omega
  have HA9 : Hid (A ≤ M) := A9
  have HAp : Hid (A < M2) := by have := k.m21; show _ < _; omega
  have HF4 : Hid (∀ n, fpw M M2 R n < BB ^ 4) := fun n => Nat.lt_of_le_of_lt (sgn_le k.m21 (k.mod2 _)) k.big
  have HK4 : Hid (∀ x, sgn M M2 (x % M2) < BB ^ 4) := fun x => Nat.lt_of_le_of_lt (sgn_le k.m21 (k.mod2 _)) k.big
  have Hml : Hid (∀ x, x % M2 < M2) := k.mod2
  clear k hp hm hR A9
  have zr := zero3
  have Jx : Hid (IHolds (w.alloc (.cells #[U (w4 A 0), U (w4 A 1), U (w4 A 2), U (w4 A 3)] 41)) w.heap.size 41 (us (ws4 A))) := IHolds.new w 41 _
  have B : Hid (Below w.heap.size w (w.alloc (.cells #[U (w4 A 0), U (w4 A 1), U (w4 A 2), U (w4 A 3)] 41))) := nB _ _
  replace F := aG F B.out
  show Calls Try.prog 49 #[.pointer (some ⟨g, 0, none⟩), .agg #[U (w4 A 0), U (w4 A 1), U (w4 A 2), U (w4 A 3)], .int .i64 (most : Int)] w _
  go_enter Try.func49, Try.ntmps49
  go_wp2_with fail
  generalize w.alloc (.cells #[U (w4 A 0), U (w4 A 1), U (w4 A 2), U (w4 A 3)] 41) = U0 at *
  obtain ⟨b0, hb0⟩ : ∃ b, b = w.heap.size := ⟨_, rfl⟩
  rw [← hb0] at Jx ⊢
  clear hb0
  go_loopg [8] 1025 (fun gk v8 wr => ∃ s : Nat, gk + s = 1026 ∧ 1 ≤ s ∧ v8 = .int .i64 (s : Int) ∧ U0 = wr)
  case atStart => exact ⟨1, by omega, by omega, rfl, rfl⟩
  case round =>
    obtain ⟨s, hs, hs1, rfl, rfl⟩ := hrel
    obtain ⟨q, hq⟩ : ∃ q, q = s * s := ⟨_, rfl⟩
    have kq : (s : Int) * (s : Int) = (q : Int) := by rw [hq]; norm_cast
    have s9 : s ≤ 1026 := by omega
    have q9 : q ≤ 2000000 := by rw [hq]; exact Nat.le_trans (Nat.mul_le_mul s9 s9) (by omega)
    by_cases hsm : q ≤ most
    · have k1 : (q : Int) ≤ (most : Int) := by omega
      have s8 : s ≤ 1024 := by
        refine Classical.byContradiction fun h => ?_
        have : 1025 * 1025 ≤ s * s := Nat.mul_le_mul (by omega) (by omega)
        omega
      clear hq
      go_wp2_with fail
      go_roundg (gk - 1)
      case measure => omega
      case rel => exact ⟨s + 1, by omega, by omega, by first | rfl | go_num, rfl⟩
    · have k1 : ¬ (q : Int) ≤ (most : Int) := by omega
      clear hq
      go_wp2_with fail
      refine (C100.out U0 s F.out (by omega)).mono ?_
      rintro e V1 ⟨⟨bm, D, rfl, hO, hMR⟩, hb⟩
      have OM1 : Hid (V1.ownsMap Try.prog 41 (plainElem (H := Unit) Try.prog 3) bm s D) := hO
      have HMR : Hid (MapR D (fpw M M2 R) s) := hMR
      replace B := aB B hb
      replace F := aG F hb
      replace Jx := aJ Jx hb
      clear hO hMR hb C100
      obtain ⟨P, hPe⟩ : ∃ P, P = 2 ^ s * R % M2 := ⟨_, rfl⟩
      have CL := fun W hF => C101.out W s hF
      rw [← hPe] at CL ⊢
      rw [show A4 P = .agg #[U (w4 P 0), U (w4 P 1), U (w4 P 2), U (w4 P 3)] from rfl]
      clear hPe
      obtain ⟨P1, hP1⟩ : ∃ P, P = 2 ^ s % M2 := ⟨_, rfl⟩
      have CI := fun W hF => C89.out W s hF
      have HIs := HIV.out s
      rw [← hP1] at CL CI HIs
      clear hP1
      obtain ⟨iv, hiv⟩ : ∃ P, P = P1 ^ (M2 - 2) % M2 := ⟨_, rfl⟩
      have hiv9 : iv < M2 := by rw [hiv]; exact Hml.out _
      have CN := fun W hF => C95.out W iv hF hiv9
      rw [← hiv] at CI HIs
      have HI : Hid (iv * 2 ^ s % M2 = 1) := HIs
      clear hiv hiv9 HIs HIV C101 C89
      obtain ⟨Q, hQ⟩ : ∃ P, P = iv * R % M2 := ⟨_, rfl⟩
      rw [← hQ] at CN
      have C1 : Hid (∀ W, GH W g S Wd M low one sq Wd2 M2 low2 one2 sq2 → Calls Try.prog 68 #[.pointer (some ⟨g, 15, none⟩), .agg #[U (w4 P 0), U (w4 P 1), U (w4 P 2), U (w4 P 3)]] W fun e w' => e = .returned (.agg #[U (w4 P1 0), U (w4 P1 1), U (w4 P1 2), U (w4 P1 3)]) ∧ Below W.heap.size W w') := CL
      have C2 : Hid (∀ W, GH W g S Wd M low one sq Wd2 M2 low2 one2 sq2 → Calls Try.prog 59 #[.pointer (some ⟨g, 15, none⟩), .agg #[U (w4 P1 0), U (w4 P1 1), U (w4 P1 2), U (w4 P1 3)]] W fun e w' => e = .returned (.agg #[U (w4 iv 0), U (w4 iv 1), U (w4 iv 2), U (w4 iv 3)]) ∧ Below W.heap.size W w') := CI
      have C3 : Hid (∀ W, GH W g S Wd M low one sq Wd2 M2 low2 one2 sq2 → Calls Try.prog 63 #[.pointer (some ⟨g, 15, none⟩), .agg #[U (w4 iv 0), U (w4 iv 1), U (w4 iv 2), U (w4 iv 3)]] W fun e w' => e = .returned (.agg #[U (w4 Q 0), U (w4 Q 1), U (w4 Q 2), U (w4 Q 3)]) ∧ Below W.heap.size W w') := CN
      have HQ : Hid (Q = iv * R % M2) := hQ
      clear CL CI CN hQ
      have hb := nB V1 (.cells #[U (w4 P 0), U (w4 P 1), U (w4 P 2), U (w4 P 3)] 41)
      have JP : Hid (IHolds (V1.alloc (.cells #[U (w4 P 0), U (w4 P 1), U (w4 P 2), U (w4 P 3)] 41)) V1.heap.size 41 [U (w4 P 0), U (w4 P 1), U (w4 P 2), U (w4 P 3)]) := IHolds.new V1 41 _
      replace B := aB B hb
      replace F := aG F hb
      replace Jx := aJ Jx hb
      replace OM1 : Hid (World.ownsMap (V1.alloc (.cells #[U (w4 P 0), U (w4 P 1), U (w4 P 2), U (w4 P 3)] 41)) Try.prog 41 (plainElem (H := Unit) Try.prog 3) bm s D) := ownsMap_below OM1.out hb
      clear hb
      go_upto_region 5 with fail
      generalize V1.alloc (.cells #[U (w4 P 0), U (w4 P 1), U (w4 P 2), U (w4 P 3)] 41) = W1 at *
      generalize V1.heap.size = bp at *
      go_cut [11] (fun v11 wx => ∃ b11 : Nat, v11 = .pointer (some ⟨b11, 0, none⟩) ∧ IHolds wx b11 41 (us (ws4 Q)) ∧ W1.heap.size ≤ b11 ∧ Below W1.heap.size W1 wx)
      case first =>
        clear B
        have B : Hid (Below W1.heap.size W1 W1) := Below.refl _ _
        have hb := dB W1
        replace F := aG F hb
        replace B := aB B hb
        replace JP := aJ JP hb
        clear hb
        refine wp_region_held_drew (S := fun W => (IHolds W (bp) 41 [U (w4 P 0), U (w4 P 1), U (w4 P 2), U (w4 P 3)]) ∧ (GH W g S Wd M low one sq Wd2 M2 low2 one2 sq2)) (by kernel_rfl) ⟨JP.out, F.out⟩ (fun hHeld1 => ?_)
        generalize W1.drew = U1 at *
        refine tk (i := 0) (v := .pointer (some ⟨g, 0, none⟩)) rfl (by kernel_rfl) (fun _ _ _ h => h) rfl ?_ hHeld1 ?_
        · intro W hS; go_simp
        simp only [Act.put, y1, y2, y3, y4, y5, y6, y7]
        refine tk (i := 3) (v := .pointer (some ⟨g, 0, none⟩)) rfl (by kernel_rfl) (fun _ _ _ h => h) rfl ?_ hHeld1 ?_
        · intro W hS; go_simp
        simp only [Act.put, y1, y2, y3, y4, y5, y6, y7]
        refine tk (i := 6) (v := .pointer (some ⟨g, 0, none⟩)) rfl (by kernel_rfl) (fun _ _ _ h => h) rfl ?_ hHeld1 ?_
        · intro W hS; go_simp
        simp only [Act.put, y1, y2, y3, y4, y5, y6, y7]
        refine tk (i := 9) (v := .agg #[U (w4 P 0), U (w4 P 1), U (w4 P 2), U (w4 P 3)]) rfl (by kernel_rfl) (fun _ _ _ h => h) rfl ?_ hHeld1 ?_
        · intro W hS; have zP_0 : W.cell? ⟨bp, 0, none⟩ = some (U (w4 P 0)) := IHolds.cell (l := [U (w4 P 0), U (w4 P 1), U (w4 P 2), U (w4 P 3)]) (t := 41) (b := bp) (w := W) (hS.1) 0 (by simp); have zP_1 : W.cell? ⟨bp, 1, none⟩ = some (U (w4 P 1)) := IHolds.cell (l := [U (w4 P 0), U (w4 P 1), U (w4 P 2), U (w4 P 3)]) (t := 41) (b := bp) (w := W) (hS.1) 1 (by simp); have zP_2 : W.cell? ⟨bp, 2, none⟩ = some (U (w4 P 2)) := IHolds.cell (l := [U (w4 P 0), U (w4 P 1), U (w4 P 2), U (w4 P 3)]) (t := 41) (b := bp) (w := W) (hS.1) 2 (by simp); have zP_3 : W.cell? ⟨bp, 3, none⟩ = some (U (w4 P 3)) := IHolds.cell (l := [U (w4 P 0), U (w4 P 1), U (w4 P 2), U (w4 P 3)]) (t := 41) (b := bp) (w := W) (hS.1) 3 (by simp); go_simp
        simp only [Act.put, y1, y2, y3, y4, y5, y6, y7]
        refine tk (i := 1) (v := .pointer (some ⟨g, 0, none⟩)) rfl (by kernel_rfl) (fun _ _ _ h => h) rfl ?_ hHeld1 ?_
        · intro W hS; go_simp
        simp only [Act.put, y1, y2, y3, y4, y5, y6, y7]
        refine tk (i := 4) (v := .pointer (some ⟨g, 0, none⟩)) rfl (by kernel_rfl) (fun _ _ _ h => h) rfl ?_ hHeld1 ?_
        · intro W hS; go_simp
        simp only [Act.put, y1, y2, y3, y4, y5, y6, y7]
        refine tk (i := 7) (v := .pointer (some ⟨g, 0, none⟩)) rfl (by kernel_rfl) (fun _ _ _ h => h) rfl ?_ hHeld1 ?_
        · intro W hS; go_simp
        simp only [Act.put, y1, y2, y3, y4, y5, y6, y7]
        refine tk (i := 2) (v := .pointer (some ⟨g, 15, none⟩)) rfl (by kernel_rfl) (fun _ _ _ h => h) rfl ?_ hHeld1 ?_
        · intro W hS; go_simp
        simp only [Act.put, y1, y2, y3, y4, y5, y6, y7]
        refine tk (i := 5) (v := .pointer (some ⟨g, 15, none⟩)) rfl (by kernel_rfl) (fun _ _ _ h => h) rfl ?_ hHeld1 ?_
        · intro W hS; go_simp
        simp only [Act.put, y1, y2, y3, y4, y5, y6, y7]
        refine tk (i := 8) (v := .pointer (some ⟨g, 15, none⟩)) rfl (by kernel_rfl) (fun _ _ _ h => h) rfl ?_ hHeld1 ?_
        · intro W hS; go_simp
        simp only [Act.put, y1, y2, y3, y4, y5, y6, y7]
        refine wpAnyH_ready (rs := [10, 13]) (by kernel_rfl) (by simp) ?_
        refine AllReadyH.cons rfl (fun K hK => ?_) (AllReadyH.cons rfl (fun K hK => ?_) AllReadyH.nil)
        · clear hHeld1
          go_simp
          refine (C1.out U1 F.out).mono ?_
          rintro e U2 ⟨rfl, hb⟩
          replace F := aG F hb
          replace B := aB B hb
          replace JP := aJ JP hb
          clear hb
          go_wp2_with fail
          refine hK.out _ _ (⟨JP.out, F.out⟩) (fun hHeld2 => ?_)
          clear hK K
          try simp only [Act.put, y1, y2, y3, y4, y5, y6, y7]
          refine wpAnyH_ready (rs := [11, 13]) (by kernel_rfl) (by simp) ?_
          refine AllReadyH.cons rfl (fun K hK => ?_) (AllReadyH.cons rfl (fun K hK => ?_) AllReadyH.nil)
          · clear hHeld2
            go_simp
            refine (C2.out U2 F.out).mono ?_
            rintro e U3 ⟨rfl, hb⟩
            replace F := aG F hb
            replace B := aB B hb
            replace JP := aJ JP hb
            clear hb
            go_wp2_with fail
            refine hK.out _ _ (⟨JP.out, F.out⟩) (fun hHeld3 => ?_)
            clear hK K
            try simp only [Act.put, y1, y2, y3, y4, y5, y6, y7]
            refine wpAnyH_ready (rs := [12, 13]) (by kernel_rfl) (by simp) ?_
            refine AllReadyH.cons rfl (fun K hK => ?_) (AllReadyH.cons rfl (fun K hK => ?_) AllReadyH.nil)
            · clear hHeld3
              go_simp
              refine (C3.out U3 F.out).mono ?_
              rintro e U4 ⟨rfl, hb⟩
              replace F := aG F hb
              replace B := aB B hb
              replace JP := aJ JP hb
              clear hb
              go_wp2_with fail
              refine hK.out _ _ (⟨JP.out, F.out⟩) (fun hHeld4 => ?_)
              clear hK K
              try simp only [Act.put, y1, y2, y3, y4, y5, y6, y7]
              refine wpAnyH_ready (rs := [13]) (by kernel_rfl) (by simp) ?_
              refine AllReadyH.cons rfl (fun K hK => ?_) AllReadyH.nil
              clear hHeld4
              have neF_q : Hid (g ≠ U4.heap.size) := F.out.ne
              go_simp
              have ne_P_q := nJ JP
              have ge_q : Hid (W1.heap.size ≤ U4.heap.size) := B.out.size
              have hb := nB U4 (.cells #[.int .u64 0, .int .u64 0, .int .u64 0, .int .u64 0] 41)
              have Jq : Hid (IHolds (U4.alloc (.cells #[.int .u64 0, .int .u64 0, .int .u64 0, .int .u64 0] 41)) U4.heap.size 41 [.int .u64 0, .int .u64 0, .int .u64 0, .int .u64 0]) := IHolds.new _ _ _
              replace F := aG F hb
              replace B := aB B hb
              replace JP := aJ JP hb
              clear hb
              generalize (U4.alloc (.cells #[.int .u64 0, .int .u64 0, .int .u64 0, .int .u64 0] 41)) = U5 at *
              generalize U4.heap.size = b6 at *
              refine hK.out _ _ (⟨JP.out, F.out⟩) (fun hHeld5 => ?_)
              clear hK K
              try simp only [Act.put, y1, y2, y3, y4, y5, y6, y7]
              refine wpAnyH_ready (rs := [14]) (by kernel_rfl) (by simp) ?_
              refine AllReadyH.cons rfl (fun K hK => ?_) AllReadyH.nil
              clear hHeld5
              have zq_0 : U5.cell? ⟨b6, 0, none⟩ = some (.int .u64 0) := IHolds.cell (l := [.int .u64 0, .int .u64 0, .int .u64 0, .int .u64 0]) (t := 41) (b := b6) (w := U5) (Jq.out) 0 (by simp)
              have zq_1 : U5.cell? ⟨b6, 1, none⟩ = some (.int .u64 0) := IHolds.cell (l := [.int .u64 0, .int .u64 0, .int .u64 0, .int .u64 0]) (t := 41) (b := b6) (w := U5) (Jq.out) 1 (by simp)
              have zq_2 : U5.cell? ⟨b6, 2, none⟩ = some (.int .u64 0) := IHolds.cell (l := [.int .u64 0, .int .u64 0, .int .u64 0, .int .u64 0]) (t := 41) (b := b6) (w := U5) (Jq.out) 2 (by simp)
              have zq_3 : U5.cell? ⟨b6, 3, none⟩ = some (.int .u64 0) := IHolds.cell (l := [.int .u64 0, .int .u64 0, .int .u64 0, .int .u64 0]) (t := 41) (b := b6) (w := U5) (Jq.out) 3 (by simp)
              have f0 := fJ Jq
              have hBut : But (b6) U5 ((((U5.setCell ⟨b6, 0, none⟩ (U (w4 Q 0))).setCell ⟨b6, 1, none⟩ (U (w4 Q 1))).setCell ⟨b6, 2, none⟩ (U (w4 Q 2))).setCell ⟨b6, 3, none⟩ (U (w4 Q 3))) := (((((But.refl _ U5).setCell 0 (U (w4 Q 0))).setCell 1 (U (w4 Q 1))).setCell 2 (U (w4 Q 2))).setCell 3 (U (w4 Q 3)))
              replace F := tG F hBut neF_q.out
              have I4 : Hid (IHolds _ (b6) 41 [U (w4 Q 0), U (w4 Q 1), U (w4 Q 2), U (w4 Q 3)]) := ((((Jq.out.set 0 (U (w4 Q 0))).set 1 (U (w4 Q 1))).set 2 (U (w4 Q 2))).set 3 (U (w4 Q 3)))
              replace B : Hid (Below W1.heap.size W1 ((((U5.setCell ⟨b6, 0, none⟩ (U (w4 Q 0))).setCell ⟨b6, 1, none⟩ (U (w4 Q 1))).setCell ⟨b6, 2, none⟩ (U (w4 Q 2))).setCell ⟨b6, 3, none⟩ (U (w4 Q 3)))) := ((((B.out.setCell (by first | exact Nat.le_refl _ | exact ge_q.out | (show W1.heap.size ≤ b6; omega)) _).setCell (by first | exact Nat.le_refl _ | exact ge_q.out | (show W1.heap.size ≤ b6; omega)) _).setCell (by first | exact Nat.le_refl _ | exact ge_q.out | (show W1.heap.size ≤ b6; omega)) _).setCell (by first | exact Nat.le_refl _ | exact ge_q.out | (show W1.heap.size ≤ b6; omega)) _)
              replace JP := tJ JP hBut (fun h => ne_P_q.out h)
              replace Jq := I4
              clear I4 hBut
              go_simp
              try go_wp2_with fail
              clear zq_0 zq_1 zq_2 zq_3
              clear f0
              generalize ((((U5.setCell ⟨b6, 0, none⟩ (U (w4 Q 0))).setCell ⟨b6, 1, none⟩ (U (w4 Q 1))).setCell ⟨b6, 2, none⟩ (U (w4 Q 2))).setCell ⟨b6, 3, none⟩ (U (w4 Q 3))) = U7 at *
              refine hK.out _ _ (⟨JP.out, F.out⟩) (fun hHeld6 => ?_)
              clear hK K
              try simp only [Act.put, y1, y2, y3, y4, y5, y6, y7]
              refine wpAnyH_done (by kernel_rfl) ?_ _
              clear hHeld6
              go_wp2_with fail
              go_meet
              case rel => exact ⟨_, rfl, Jq.out, ge_q.out, B.out⟩
            · clear hHeld3
              have neF_q : Hid (g ≠ U3.heap.size) := F.out.ne
              go_simp
              have ne_P_q := nJ JP
              have ge_q : Hid (W1.heap.size ≤ U3.heap.size) := B.out.size
              have hb := nB U3 (.cells #[.int .u64 0, .int .u64 0, .int .u64 0, .int .u64 0] 41)
              have Jq : Hid (IHolds (U3.alloc (.cells #[.int .u64 0, .int .u64 0, .int .u64 0, .int .u64 0] 41)) U3.heap.size 41 [.int .u64 0, .int .u64 0, .int .u64 0, .int .u64 0]) := IHolds.new _ _ _
              replace F := aG F hb
              replace B := aB B hb
              replace JP := aJ JP hb
              clear hb
              generalize (U3.alloc (.cells #[.int .u64 0, .int .u64 0, .int .u64 0, .int .u64 0] 41)) = U8 at *
              generalize U3.heap.size = b9 at *
              refine hK.out _ _ (⟨JP.out, F.out⟩) (fun hHeld7 => ?_)
              clear hK K
              try simp only [Act.put, y1, y2, y3, y4, y5, y6, y7]
              refine wpAnyH_ready (rs := [12]) (by kernel_rfl) (by simp) ?_
              refine AllReadyH.cons rfl (fun K hK => ?_) AllReadyH.nil
              clear hHeld7
              go_simp
              refine (C3.out U8 F.out).mono ?_
              rintro e U10 ⟨rfl, hb⟩
              replace F := aG F hb
              replace B := aB B hb
              replace JP := aJ JP hb
              replace Jq := aJ Jq hb
              clear hb
              go_wp2_with fail
              refine hK.out _ _ (⟨JP.out, F.out⟩) (fun hHeld8 => ?_)
              clear hK K
              try simp only [Act.put, y1, y2, y3, y4, y5, y6, y7]
              refine wpAnyH_ready (rs := [14]) (by kernel_rfl) (by simp) ?_
              refine AllReadyH.cons rfl (fun K hK => ?_) AllReadyH.nil
              clear hHeld8
              have zq_0 : U10.cell? ⟨b9, 0, none⟩ = some (.int .u64 0) := IHolds.cell (l := [.int .u64 0, .int .u64 0, .int .u64 0, .int .u64 0]) (t := 41) (b := b9) (w := U10) (Jq.out) 0 (by simp)
              have zq_1 : U10.cell? ⟨b9, 1, none⟩ = some (.int .u64 0) := IHolds.cell (l := [.int .u64 0, .int .u64 0, .int .u64 0, .int .u64 0]) (t := 41) (b := b9) (w := U10) (Jq.out) 1 (by simp)
              have zq_2 : U10.cell? ⟨b9, 2, none⟩ = some (.int .u64 0) := IHolds.cell (l := [.int .u64 0, .int .u64 0, .int .u64 0, .int .u64 0]) (t := 41) (b := b9) (w := U10) (Jq.out) 2 (by simp)
              have zq_3 : U10.cell? ⟨b9, 3, none⟩ = some (.int .u64 0) := IHolds.cell (l := [.int .u64 0, .int .u64 0, .int .u64 0, .int .u64 0]) (t := 41) (b := b9) (w := U10) (Jq.out) 3 (by simp)
              have f0 := fJ Jq
              have hBut : But (b9) U10 ((((U10.setCell ⟨b9, 0, none⟩ (U (w4 Q 0))).setCell ⟨b9, 1, none⟩ (U (w4 Q 1))).setCell ⟨b9, 2, none⟩ (U (w4 Q 2))).setCell ⟨b9, 3, none⟩ (U (w4 Q 3))) := (((((But.refl _ U10).setCell 0 (U (w4 Q 0))).setCell 1 (U (w4 Q 1))).setCell 2 (U (w4 Q 2))).setCell 3 (U (w4 Q 3)))
              replace F := tG F hBut neF_q.out
              have I4 : Hid (IHolds _ (b9) 41 [U (w4 Q 0), U (w4 Q 1), U (w4 Q 2), U (w4 Q 3)]) := ((((Jq.out.set 0 (U (w4 Q 0))).set 1 (U (w4 Q 1))).set 2 (U (w4 Q 2))).set 3 (U (w4 Q 3)))
              replace B : Hid (Below W1.heap.size W1 ((((U10.setCell ⟨b9, 0, none⟩ (U (w4 Q 0))).setCell ⟨b9, 1, none⟩ (U (w4 Q 1))).setCell ⟨b9, 2, none⟩ (U (w4 Q 2))).setCell ⟨b9, 3, none⟩ (U (w4 Q 3)))) := ((((B.out.setCell (by first | exact Nat.le_refl _ | exact ge_q.out | (show W1.heap.size ≤ b9; omega)) _).setCell (by first | exact Nat.le_refl _ | exact ge_q.out | (show W1.heap.size ≤ b9; omega)) _).setCell (by first | exact Nat.le_refl _ | exact ge_q.out | (show W1.heap.size ≤ b9; omega)) _).setCell (by first | exact Nat.le_refl _ | exact ge_q.out | (show W1.heap.size ≤ b9; omega)) _)
              replace JP := tJ JP hBut (fun h => ne_P_q.out h)
              replace Jq := I4
              clear I4 hBut
              go_simp
              try go_wp2_with fail
              clear zq_0 zq_1 zq_2 zq_3
              clear f0
              generalize ((((U10.setCell ⟨b9, 0, none⟩ (U (w4 Q 0))).setCell ⟨b9, 1, none⟩ (U (w4 Q 1))).setCell ⟨b9, 2, none⟩ (U (w4 Q 2))).setCell ⟨b9, 3, none⟩ (U (w4 Q 3))) = U11 at *
              refine hK.out _ _ (⟨JP.out, F.out⟩) (fun hHeld9 => ?_)
              clear hK K
              try simp only [Act.put, y1, y2, y3, y4, y5, y6, y7]
              refine wpAnyH_done (by kernel_rfl) ?_ _
              clear hHeld9
              go_wp2_with fail
              go_meet
              case rel => exact ⟨_, rfl, Jq.out, ge_q.out, B.out⟩
          · clear hHeld2
            have neF_q : Hid (g ≠ U2.heap.size) := F.out.ne
            go_simp
            have ne_P_q := nJ JP
            have ge_q : Hid (W1.heap.size ≤ U2.heap.size) := B.out.size
            have hb := nB U2 (.cells #[.int .u64 0, .int .u64 0, .int .u64 0, .int .u64 0] 41)
            have Jq : Hid (IHolds (U2.alloc (.cells #[.int .u64 0, .int .u64 0, .int .u64 0, .int .u64 0] 41)) U2.heap.size 41 [.int .u64 0, .int .u64 0, .int .u64 0, .int .u64 0]) := IHolds.new _ _ _
            replace F := aG F hb
            replace B := aB B hb
            replace JP := aJ JP hb
            clear hb
            generalize (U2.alloc (.cells #[.int .u64 0, .int .u64 0, .int .u64 0, .int .u64 0] 41)) = U12 at *
            generalize U2.heap.size = b13 at *
            refine hK.out _ _ (⟨JP.out, F.out⟩) (fun hHeld10 => ?_)
            clear hK K
            try simp only [Act.put, y1, y2, y3, y4, y5, y6, y7]
            refine wpAnyH_ready (rs := [11]) (by kernel_rfl) (by simp) ?_
            refine AllReadyH.cons rfl (fun K hK => ?_) AllReadyH.nil
            clear hHeld10
            go_simp
            refine (C2.out U12 F.out).mono ?_
            rintro e U14 ⟨rfl, hb⟩
            replace F := aG F hb
            replace B := aB B hb
            replace JP := aJ JP hb
            replace Jq := aJ Jq hb
            clear hb
            go_wp2_with fail
            refine hK.out _ _ (⟨JP.out, F.out⟩) (fun hHeld11 => ?_)
            clear hK K
            try simp only [Act.put, y1, y2, y3, y4, y5, y6, y7]
            refine wpAnyH_ready (rs := [12]) (by kernel_rfl) (by simp) ?_
            refine AllReadyH.cons rfl (fun K hK => ?_) AllReadyH.nil
            clear hHeld11
            go_simp
            refine (C3.out U14 F.out).mono ?_
            rintro e U15 ⟨rfl, hb⟩
            replace F := aG F hb
            replace B := aB B hb
            replace JP := aJ JP hb
            replace Jq := aJ Jq hb
            clear hb
            go_wp2_with fail
            refine hK.out _ _ (⟨JP.out, F.out⟩) (fun hHeld12 => ?_)
            clear hK K
            try simp only [Act.put, y1, y2, y3, y4, y5, y6, y7]
            refine wpAnyH_ready (rs := [14]) (by kernel_rfl) (by simp) ?_
            refine AllReadyH.cons rfl (fun K hK => ?_) AllReadyH.nil
            clear hHeld12
            have zq_0 : U15.cell? ⟨b13, 0, none⟩ = some (.int .u64 0) := IHolds.cell (l := [.int .u64 0, .int .u64 0, .int .u64 0, .int .u64 0]) (t := 41) (b := b13) (w := U15) (Jq.out) 0 (by simp)
            have zq_1 : U15.cell? ⟨b13, 1, none⟩ = some (.int .u64 0) := IHolds.cell (l := [.int .u64 0, .int .u64 0, .int .u64 0, .int .u64 0]) (t := 41) (b := b13) (w := U15) (Jq.out) 1 (by simp)
            have zq_2 : U15.cell? ⟨b13, 2, none⟩ = some (.int .u64 0) := IHolds.cell (l := [.int .u64 0, .int .u64 0, .int .u64 0, .int .u64 0]) (t := 41) (b := b13) (w := U15) (Jq.out) 2 (by simp)
            have zq_3 : U15.cell? ⟨b13, 3, none⟩ = some (.int .u64 0) := IHolds.cell (l := [.int .u64 0, .int .u64 0, .int .u64 0, .int .u64 0]) (t := 41) (b := b13) (w := U15) (Jq.out) 3 (by simp)
            have f0 := fJ Jq
            have hBut : But (b13) U15 ((((U15.setCell ⟨b13, 0, none⟩ (U (w4 Q 0))).setCell ⟨b13, 1, none⟩ (U (w4 Q 1))).setCell ⟨b13, 2, none⟩ (U (w4 Q 2))).setCell ⟨b13, 3, none⟩ (U (w4 Q 3))) := (((((But.refl _ U15).setCell 0 (U (w4 Q 0))).setCell 1 (U (w4 Q 1))).setCell 2 (U (w4 Q 2))).setCell 3 (U (w4 Q 3)))
            replace F := tG F hBut neF_q.out
            have I4 : Hid (IHolds _ (b13) 41 [U (w4 Q 0), U (w4 Q 1), U (w4 Q 2), U (w4 Q 3)]) := ((((Jq.out.set 0 (U (w4 Q 0))).set 1 (U (w4 Q 1))).set 2 (U (w4 Q 2))).set 3 (U (w4 Q 3)))
            replace B : Hid (Below W1.heap.size W1 ((((U15.setCell ⟨b13, 0, none⟩ (U (w4 Q 0))).setCell ⟨b13, 1, none⟩ (U (w4 Q 1))).setCell ⟨b13, 2, none⟩ (U (w4 Q 2))).setCell ⟨b13, 3, none⟩ (U (w4 Q 3)))) := ((((B.out.setCell (by first | exact Nat.le_refl _ | exact ge_q.out | (show W1.heap.size ≤ b13; omega)) _).setCell (by first | exact Nat.le_refl _ | exact ge_q.out | (show W1.heap.size ≤ b13; omega)) _).setCell (by first | exact Nat.le_refl _ | exact ge_q.out | (show W1.heap.size ≤ b13; omega)) _).setCell (by first | exact Nat.le_refl _ | exact ge_q.out | (show W1.heap.size ≤ b13; omega)) _)
            replace JP := tJ JP hBut (fun h => ne_P_q.out h)
            replace Jq := I4
            clear I4 hBut
            go_simp
            try go_wp2_with fail
            clear zq_0 zq_1 zq_2 zq_3
            clear f0
            generalize ((((U15.setCell ⟨b13, 0, none⟩ (U (w4 Q 0))).setCell ⟨b13, 1, none⟩ (U (w4 Q 1))).setCell ⟨b13, 2, none⟩ (U (w4 Q 2))).setCell ⟨b13, 3, none⟩ (U (w4 Q 3))) = U16 at *
            refine hK.out _ _ (⟨JP.out, F.out⟩) (fun hHeld13 => ?_)
            clear hK K
            try simp only [Act.put, y1, y2, y3, y4, y5, y6, y7]
            refine wpAnyH_done (by kernel_rfl) ?_ _
            clear hHeld13
            go_wp2_with fail
            go_meet
            case rel => exact ⟨_, rfl, Jq.out, ge_q.out, B.out⟩
        · clear hHeld1
          have neF_q : Hid (g ≠ U1.heap.size) := F.out.ne
          go_simp
          have ne_P_q := nJ JP
          have ge_q : Hid (W1.heap.size ≤ U1.heap.size) := B.out.size
          have hb := nB U1 (.cells #[.int .u64 0, .int .u64 0, .int .u64 0, .int .u64 0] 41)
          have Jq : Hid (IHolds (U1.alloc (.cells #[.int .u64 0, .int .u64 0, .int .u64 0, .int .u64 0] 41)) U1.heap.size 41 [.int .u64 0, .int .u64 0, .int .u64 0, .int .u64 0]) := IHolds.new _ _ _
          replace F := aG F hb
          replace B := aB B hb
          replace JP := aJ JP hb
          clear hb
          generalize (U1.alloc (.cells #[.int .u64 0, .int .u64 0, .int .u64 0, .int .u64 0] 41)) = U17 at *
          generalize U1.heap.size = b18 at *
          refine hK.out _ _ (⟨JP.out, F.out⟩) (fun hHeld14 => ?_)
          clear hK K
          try simp only [Act.put, y1, y2, y3, y4, y5, y6, y7]
          refine wpAnyH_ready (rs := [10]) (by kernel_rfl) (by simp) ?_
          refine AllReadyH.cons rfl (fun K hK => ?_) AllReadyH.nil
          clear hHeld14
          go_simp
          refine (C1.out U17 F.out).mono ?_
          rintro e U19 ⟨rfl, hb⟩
          replace F := aG F hb
          replace B := aB B hb
          replace JP := aJ JP hb
          replace Jq := aJ Jq hb
          clear hb
          go_wp2_with fail
          refine hK.out _ _ (⟨JP.out, F.out⟩) (fun hHeld15 => ?_)
          clear hK K
          try simp only [Act.put, y1, y2, y3, y4, y5, y6, y7]
          refine wpAnyH_ready (rs := [11]) (by kernel_rfl) (by simp) ?_
          refine AllReadyH.cons rfl (fun K hK => ?_) AllReadyH.nil
          clear hHeld15
          go_simp
          refine (C2.out U19 F.out).mono ?_
          rintro e U20 ⟨rfl, hb⟩
          replace F := aG F hb
          replace B := aB B hb
          replace JP := aJ JP hb
          replace Jq := aJ Jq hb
          clear hb
          go_wp2_with fail
          refine hK.out _ _ (⟨JP.out, F.out⟩) (fun hHeld16 => ?_)
          clear hK K
          try simp only [Act.put, y1, y2, y3, y4, y5, y6, y7]
          refine wpAnyH_ready (rs := [12]) (by kernel_rfl) (by simp) ?_
          refine AllReadyH.cons rfl (fun K hK => ?_) AllReadyH.nil
          clear hHeld16
          go_simp
          refine (C3.out U20 F.out).mono ?_
          rintro e U21 ⟨rfl, hb⟩
          replace F := aG F hb
          replace B := aB B hb
          replace JP := aJ JP hb
          replace Jq := aJ Jq hb
          clear hb
          go_wp2_with fail
          refine hK.out _ _ (⟨JP.out, F.out⟩) (fun hHeld17 => ?_)
          clear hK K
          try simp only [Act.put, y1, y2, y3, y4, y5, y6, y7]
          refine wpAnyH_ready (rs := [14]) (by kernel_rfl) (by simp) ?_
          refine AllReadyH.cons rfl (fun K hK => ?_) AllReadyH.nil
          clear hHeld17
          have zq_0 : U21.cell? ⟨b18, 0, none⟩ = some (.int .u64 0) := IHolds.cell (l := [.int .u64 0, .int .u64 0, .int .u64 0, .int .u64 0]) (t := 41) (b := b18) (w := U21) (Jq.out) 0 (by simp)
          have zq_1 : U21.cell? ⟨b18, 1, none⟩ = some (.int .u64 0) := IHolds.cell (l := [.int .u64 0, .int .u64 0, .int .u64 0, .int .u64 0]) (t := 41) (b := b18) (w := U21) (Jq.out) 1 (by simp)
          have zq_2 : U21.cell? ⟨b18, 2, none⟩ = some (.int .u64 0) := IHolds.cell (l := [.int .u64 0, .int .u64 0, .int .u64 0, .int .u64 0]) (t := 41) (b := b18) (w := U21) (Jq.out) 2 (by simp)
          have zq_3 : U21.cell? ⟨b18, 3, none⟩ = some (.int .u64 0) := IHolds.cell (l := [.int .u64 0, .int .u64 0, .int .u64 0, .int .u64 0]) (t := 41) (b := b18) (w := U21) (Jq.out) 3 (by simp)
          have f0 := fJ Jq
          have hBut : But (b18) U21 ((((U21.setCell ⟨b18, 0, none⟩ (U (w4 Q 0))).setCell ⟨b18, 1, none⟩ (U (w4 Q 1))).setCell ⟨b18, 2, none⟩ (U (w4 Q 2))).setCell ⟨b18, 3, none⟩ (U (w4 Q 3))) := (((((But.refl _ U21).setCell 0 (U (w4 Q 0))).setCell 1 (U (w4 Q 1))).setCell 2 (U (w4 Q 2))).setCell 3 (U (w4 Q 3)))
          replace F := tG F hBut neF_q.out
          have I4 : Hid (IHolds _ (b18) 41 [U (w4 Q 0), U (w4 Q 1), U (w4 Q 2), U (w4 Q 3)]) := ((((Jq.out.set 0 (U (w4 Q 0))).set 1 (U (w4 Q 1))).set 2 (U (w4 Q 2))).set 3 (U (w4 Q 3)))
          replace B : Hid (Below W1.heap.size W1 ((((U21.setCell ⟨b18, 0, none⟩ (U (w4 Q 0))).setCell ⟨b18, 1, none⟩ (U (w4 Q 1))).setCell ⟨b18, 2, none⟩ (U (w4 Q 2))).setCell ⟨b18, 3, none⟩ (U (w4 Q 3)))) := ((((B.out.setCell (by first | exact Nat.le_refl _ | exact ge_q.out | (show W1.heap.size ≤ b18; omega)) _).setCell (by first | exact Nat.le_refl _ | exact ge_q.out | (show W1.heap.size ≤ b18; omega)) _).setCell (by first | exact Nat.le_refl _ | exact ge_q.out | (show W1.heap.size ≤ b18; omega)) _).setCell (by first | exact Nat.le_refl _ | exact ge_q.out | (show W1.heap.size ≤ b18; omega)) _)
          replace JP := tJ JP hBut (fun h => ne_P_q.out h)
          replace Jq := I4
          clear I4 hBut
          go_simp
          try go_wp2_with fail
          clear zq_0 zq_1 zq_2 zq_3
          clear f0
          generalize ((((U21.setCell ⟨b18, 0, none⟩ (U (w4 Q 0))).setCell ⟨b18, 1, none⟩ (U (w4 Q 1))).setCell ⟨b18, 2, none⟩ (U (w4 Q 2))).setCell ⟨b18, 3, none⟩ (U (w4 Q 3))) = U22 at *
          refine hK.out _ _ (⟨JP.out, F.out⟩) (fun hHeld18 => ?_)
          clear hK K
          try simp only [Act.put, y1, y2, y3, y4, y5, y6, y7]
          refine wpAnyH_done (by kernel_rfl) ?_ _
          clear hHeld18
          go_wp2_with fail
          go_meet
          case rel => exact ⟨_, rfl, Jq.out, ge_q.out, B.out⟩
      case rest =>
        obtain ⟨b11, rfl, hJ, hg11, hB⟩ := hcut
        have J11 : Hid (IHolds wc b11 41 (us (ws4 Q))) := hJ
        replace OM1 : Hid (wc.ownsMap Try.prog 41 (plainElem (H := Unit) Try.prog 3) bm s D) := ownsMap_below OM1.out hB
        replace B := aB B hB
        replace F := aG F hB
        have JX : Hid (IHolds wc b0 41 [U (w4 A 0), U (w4 A 1), U (w4 A 2), U (w4 A 3)]) := aJ Jx hB
        clear hJ hB hg11 JP Jx C1 C2 C3
        generalize wc = W2 at *
        clear W1
        obtain ⟨R0, hR0⟩ : ∃ P, P = A * R % M2 := ⟨_, rfl⟩
        have C4 : Hid (∀ W, GH W g S Wd M low one sq Wd2 M2 low2 one2 sq2 → Calls Try.prog 63 #[.pointer (some ⟨g, 15, none⟩), .agg #[U (w4 A 0), U (w4 A 1), U (w4 A 2), U (w4 A 3)]] W fun e w' => e = .returned (.agg #[U (w4 R0 0), U (w4 R0 1), U (w4 R0 2), U (w4 R0 3)]) ∧ Below W.heap.size W w') := fun W hF => by
          have q := C95.out W A hF HAp.out
          rw [← hR0] at q
          exact q
        have HR0 : Hid (R0 = A * iv ^ 0 * R % M2) := by show _ = _; rw [Nat.pow_zero, Nat.mul_one]; exact hR0
        clear hR0 C95
        go_upto_region 6 with fail
        go_cut [12] (fun v12 wx => ∃ b12 : Nat, v12 = .pointer (some ⟨b12, 0, none⟩) ∧ IHolds wx b12 41 (us (ws4 R0)) ∧ W2.heap.size ≤ b12 ∧ Below W2.heap.size W2 wx)
        case first =>
          clear B
          have B : Hid (Below W2.heap.size W2 W2) := Below.refl _ _
          have hb := dB W2
          replace F := aG F hb
          replace B := aB B hb
          replace JX := aJ JX hb
          clear hb
          refine wp_region_held_drew (S := fun W => (IHolds W (b0) 41 [U (w4 A 0), U (w4 A 1), U (w4 A 2), U (w4 A 3)]) ∧ (GH W g S Wd M low one sq Wd2 M2 low2 one2 sq2)) (by kernel_rfl) ⟨JX.out, F.out⟩ (fun hHeld1 => ?_)
          generalize W2.drew = U1 at *
          refine tk (i := 0) (v := .pointer (some ⟨g, 0, none⟩)) rfl (by kernel_rfl) (fun _ _ _ h => h) rfl ?_ hHeld1 ?_
          · intro W hS; go_simp
          simp only [Act.put, y1, y2, y3, y4, y5, y6, y7]
          refine tk (i := 3) (v := .agg #[U (w4 A 0), U (w4 A 1), U (w4 A 2), U (w4 A 3)]) rfl (by kernel_rfl) (fun _ _ _ h => h) rfl ?_ hHeld1 ?_
          · intro W hS; have zX_0 : W.cell? ⟨b0, 0, none⟩ = some (U (w4 A 0)) := IHolds.cell (l := [U (w4 A 0), U (w4 A 1), U (w4 A 2), U (w4 A 3)]) (t := 41) (b := b0) (w := W) (hS.1) 0 (by simp); have zX_1 : W.cell? ⟨b0, 1, none⟩ = some (U (w4 A 1)) := IHolds.cell (l := [U (w4 A 0), U (w4 A 1), U (w4 A 2), U (w4 A 3)]) (t := 41) (b := b0) (w := W) (hS.1) 1 (by simp); have zX_2 : W.cell? ⟨b0, 2, none⟩ = some (U (w4 A 2)) := IHolds.cell (l := [U (w4 A 0), U (w4 A 1), U (w4 A 2), U (w4 A 3)]) (t := 41) (b := b0) (w := W) (hS.1) 2 (by simp); have zX_3 : W.cell? ⟨b0, 3, none⟩ = some (U (w4 A 3)) := IHolds.cell (l := [U (w4 A 0), U (w4 A 1), U (w4 A 2), U (w4 A 3)]) (t := 41) (b := b0) (w := W) (hS.1) 3 (by simp); go_simp
          simp only [Act.put, y1, y2, y3, y4, y5, y6, y7]
          refine tk (i := 1) (v := .pointer (some ⟨g, 0, none⟩)) rfl (by kernel_rfl) (fun _ _ _ h => h) rfl ?_ hHeld1 ?_
          · intro W hS; go_simp
          simp only [Act.put, y1, y2, y3, y4, y5, y6, y7]
          refine tk (i := 2) (v := .pointer (some ⟨g, 15, none⟩)) rfl (by kernel_rfl) (fun _ _ _ h => h) rfl ?_ hHeld1 ?_
          · intro W hS; go_simp
          simp only [Act.put, y1, y2, y3, y4, y5, y6, y7]
          refine wpAnyH_ready (rs := [4, 5]) (by kernel_rfl) (by simp) ?_
          refine AllReadyH.cons rfl (fun K hK => ?_) (AllReadyH.cons rfl (fun K hK => ?_) AllReadyH.nil)
          · clear hHeld1
            go_simp
            refine (C4.out U1 F.out).mono ?_
            rintro e U2 ⟨rfl, hb⟩
            replace F := aG F hb
            replace B := aB B hb
            replace JX := aJ JX hb
            clear hb
            go_wp2_with fail
            refine hK.out _ _ (⟨JX.out, F.out⟩) (fun hHeld2 => ?_)
            clear hK K
            try simp only [Act.put, y1, y2, y3, y4, y5, y6, y7]
            refine wpAnyH_ready (rs := [5]) (by kernel_rfl) (by simp) ?_
            refine AllReadyH.cons rfl (fun K hK => ?_) AllReadyH.nil
            clear hHeld2
            have neF_q : Hid (g ≠ U2.heap.size) := F.out.ne
            go_simp
            have ne_X_q := nJ JX
            have ge_q : Hid (W2.heap.size ≤ U2.heap.size) := B.out.size
            have hb := nB U2 (.cells #[.int .u64 0, .int .u64 0, .int .u64 0, .int .u64 0] 41)
            have Jq : Hid (IHolds (U2.alloc (.cells #[.int .u64 0, .int .u64 0, .int .u64 0, .int .u64 0] 41)) U2.heap.size 41 [.int .u64 0, .int .u64 0, .int .u64 0, .int .u64 0]) := IHolds.new _ _ _
            replace F := aG F hb
            replace B := aB B hb
            replace JX := aJ JX hb
            clear hb
            generalize (U2.alloc (.cells #[.int .u64 0, .int .u64 0, .int .u64 0, .int .u64 0] 41)) = U3 at *
            generalize U2.heap.size = b4 at *
            refine hK.out _ _ (⟨JX.out, F.out⟩) (fun hHeld3 => ?_)
            clear hK K
            try simp only [Act.put, y1, y2, y3, y4, y5, y6, y7]
            refine wpAnyH_ready (rs := [6]) (by kernel_rfl) (by simp) ?_
            refine AllReadyH.cons rfl (fun K hK => ?_) AllReadyH.nil
            clear hHeld3
            have zq_0 : U3.cell? ⟨b4, 0, none⟩ = some (.int .u64 0) := IHolds.cell (l := [.int .u64 0, .int .u64 0, .int .u64 0, .int .u64 0]) (t := 41) (b := b4) (w := U3) (Jq.out) 0 (by simp)
            have zq_1 : U3.cell? ⟨b4, 1, none⟩ = some (.int .u64 0) := IHolds.cell (l := [.int .u64 0, .int .u64 0, .int .u64 0, .int .u64 0]) (t := 41) (b := b4) (w := U3) (Jq.out) 1 (by simp)
            have zq_2 : U3.cell? ⟨b4, 2, none⟩ = some (.int .u64 0) := IHolds.cell (l := [.int .u64 0, .int .u64 0, .int .u64 0, .int .u64 0]) (t := 41) (b := b4) (w := U3) (Jq.out) 2 (by simp)
            have zq_3 : U3.cell? ⟨b4, 3, none⟩ = some (.int .u64 0) := IHolds.cell (l := [.int .u64 0, .int .u64 0, .int .u64 0, .int .u64 0]) (t := 41) (b := b4) (w := U3) (Jq.out) 3 (by simp)
            have f0 := fJ Jq
            have hBut : But (b4) U3 ((((U3.setCell ⟨b4, 0, none⟩ (U (w4 R0 0))).setCell ⟨b4, 1, none⟩ (U (w4 R0 1))).setCell ⟨b4, 2, none⟩ (U (w4 R0 2))).setCell ⟨b4, 3, none⟩ (U (w4 R0 3))) := (((((But.refl _ U3).setCell 0 (U (w4 R0 0))).setCell 1 (U (w4 R0 1))).setCell 2 (U (w4 R0 2))).setCell 3 (U (w4 R0 3)))
            replace F := tG F hBut neF_q.out
            have I4 : Hid (IHolds _ (b4) 41 [U (w4 R0 0), U (w4 R0 1), U (w4 R0 2), U (w4 R0 3)]) := ((((Jq.out.set 0 (U (w4 R0 0))).set 1 (U (w4 R0 1))).set 2 (U (w4 R0 2))).set 3 (U (w4 R0 3)))
            replace B : Hid (Below W2.heap.size W2 ((((U3.setCell ⟨b4, 0, none⟩ (U (w4 R0 0))).setCell ⟨b4, 1, none⟩ (U (w4 R0 1))).setCell ⟨b4, 2, none⟩ (U (w4 R0 2))).setCell ⟨b4, 3, none⟩ (U (w4 R0 3)))) := ((((B.out.setCell (by first | exact Nat.le_refl _ | exact ge_q.out | (show W2.heap.size ≤ b4; omega)) _).setCell (by first | exact Nat.le_refl _ | exact ge_q.out | (show W2.heap.size ≤ b4; omega)) _).setCell (by first | exact Nat.le_refl _ | exact ge_q.out | (show W2.heap.size ≤ b4; omega)) _).setCell (by first | exact Nat.le_refl _ | exact ge_q.out | (show W2.heap.size ≤ b4; omega)) _)
            replace JX := tJ JX hBut (fun h => ne_X_q.out h)
            replace Jq := I4
            clear I4 hBut
            go_simp
            try go_wp2_with fail
            clear zq_0 zq_1 zq_2 zq_3
            clear f0
            generalize ((((U3.setCell ⟨b4, 0, none⟩ (U (w4 R0 0))).setCell ⟨b4, 1, none⟩ (U (w4 R0 1))).setCell ⟨b4, 2, none⟩ (U (w4 R0 2))).setCell ⟨b4, 3, none⟩ (U (w4 R0 3))) = U5 at *
            refine hK.out _ _ (⟨JX.out, F.out⟩) (fun hHeld4 => ?_)
            clear hK K
            try simp only [Act.put, y1, y2, y3, y4, y5, y6, y7]
            refine wpAnyH_done (by kernel_rfl) ?_ _
            clear hHeld4
            go_wp2_with fail
            go_meet
            case rel => exact ⟨_, rfl, Jq.out, ge_q.out, B.out⟩
          · clear hHeld1
            have neF_q : Hid (g ≠ U1.heap.size) := F.out.ne
            go_simp
            have ne_X_q := nJ JX
            have ge_q : Hid (W2.heap.size ≤ U1.heap.size) := B.out.size
            have hb := nB U1 (.cells #[.int .u64 0, .int .u64 0, .int .u64 0, .int .u64 0] 41)
            have Jq : Hid (IHolds (U1.alloc (.cells #[.int .u64 0, .int .u64 0, .int .u64 0, .int .u64 0] 41)) U1.heap.size 41 [.int .u64 0, .int .u64 0, .int .u64 0, .int .u64 0]) := IHolds.new _ _ _
            replace F := aG F hb
            replace B := aB B hb
            replace JX := aJ JX hb
            clear hb
            generalize (U1.alloc (.cells #[.int .u64 0, .int .u64 0, .int .u64 0, .int .u64 0] 41)) = U6 at *
            generalize U1.heap.size = b7 at *
            refine hK.out _ _ (⟨JX.out, F.out⟩) (fun hHeld5 => ?_)
            clear hK K
            try simp only [Act.put, y1, y2, y3, y4, y5, y6, y7]
            refine wpAnyH_ready (rs := [4]) (by kernel_rfl) (by simp) ?_
            refine AllReadyH.cons rfl (fun K hK => ?_) AllReadyH.nil
            clear hHeld5
            go_simp
            refine (C4.out U6 F.out).mono ?_
            rintro e U8 ⟨rfl, hb⟩
            replace F := aG F hb
            replace B := aB B hb
            replace JX := aJ JX hb
            replace Jq := aJ Jq hb
            clear hb
            go_wp2_with fail
            refine hK.out _ _ (⟨JX.out, F.out⟩) (fun hHeld6 => ?_)
            clear hK K
            try simp only [Act.put, y1, y2, y3, y4, y5, y6, y7]
            refine wpAnyH_ready (rs := [6]) (by kernel_rfl) (by simp) ?_
            refine AllReadyH.cons rfl (fun K hK => ?_) AllReadyH.nil
            clear hHeld6
            have zq_0 : U8.cell? ⟨b7, 0, none⟩ = some (.int .u64 0) := IHolds.cell (l := [.int .u64 0, .int .u64 0, .int .u64 0, .int .u64 0]) (t := 41) (b := b7) (w := U8) (Jq.out) 0 (by simp)
            have zq_1 : U8.cell? ⟨b7, 1, none⟩ = some (.int .u64 0) := IHolds.cell (l := [.int .u64 0, .int .u64 0, .int .u64 0, .int .u64 0]) (t := 41) (b := b7) (w := U8) (Jq.out) 1 (by simp)
            have zq_2 : U8.cell? ⟨b7, 2, none⟩ = some (.int .u64 0) := IHolds.cell (l := [.int .u64 0, .int .u64 0, .int .u64 0, .int .u64 0]) (t := 41) (b := b7) (w := U8) (Jq.out) 2 (by simp)
            have zq_3 : U8.cell? ⟨b7, 3, none⟩ = some (.int .u64 0) := IHolds.cell (l := [.int .u64 0, .int .u64 0, .int .u64 0, .int .u64 0]) (t := 41) (b := b7) (w := U8) (Jq.out) 3 (by simp)
            have f0 := fJ Jq
            have hBut : But (b7) U8 ((((U8.setCell ⟨b7, 0, none⟩ (U (w4 R0 0))).setCell ⟨b7, 1, none⟩ (U (w4 R0 1))).setCell ⟨b7, 2, none⟩ (U (w4 R0 2))).setCell ⟨b7, 3, none⟩ (U (w4 R0 3))) := (((((But.refl _ U8).setCell 0 (U (w4 R0 0))).setCell 1 (U (w4 R0 1))).setCell 2 (U (w4 R0 2))).setCell 3 (U (w4 R0 3)))
            replace F := tG F hBut neF_q.out
            have I4 : Hid (IHolds _ (b7) 41 [U (w4 R0 0), U (w4 R0 1), U (w4 R0 2), U (w4 R0 3)]) := ((((Jq.out.set 0 (U (w4 R0 0))).set 1 (U (w4 R0 1))).set 2 (U (w4 R0 2))).set 3 (U (w4 R0 3)))
            replace B : Hid (Below W2.heap.size W2 ((((U8.setCell ⟨b7, 0, none⟩ (U (w4 R0 0))).setCell ⟨b7, 1, none⟩ (U (w4 R0 1))).setCell ⟨b7, 2, none⟩ (U (w4 R0 2))).setCell ⟨b7, 3, none⟩ (U (w4 R0 3)))) := ((((B.out.setCell (by first | exact Nat.le_refl _ | exact ge_q.out | (show W2.heap.size ≤ b7; omega)) _).setCell (by first | exact Nat.le_refl _ | exact ge_q.out | (show W2.heap.size ≤ b7; omega)) _).setCell (by first | exact Nat.le_refl _ | exact ge_q.out | (show W2.heap.size ≤ b7; omega)) _).setCell (by first | exact Nat.le_refl _ | exact ge_q.out | (show W2.heap.size ≤ b7; omega)) _)
            replace JX := tJ JX hBut (fun h => ne_X_q.out h)
            replace Jq := I4
            clear I4 hBut
            go_simp
            try go_wp2_with fail
            clear zq_0 zq_1 zq_2 zq_3
            clear f0
            generalize ((((U8.setCell ⟨b7, 0, none⟩ (U (w4 R0 0))).setCell ⟨b7, 1, none⟩ (U (w4 R0 1))).setCell ⟨b7, 2, none⟩ (U (w4 R0 2))).setCell ⟨b7, 3, none⟩ (U (w4 R0 3))) = U9 at *
            refine hK.out _ _ (⟨JX.out, F.out⟩) (fun hHeld7 => ?_)
            clear hK K
            try simp only [Act.put, y1, y2, y3, y4, y5, y6, y7]
            refine wpAnyH_done (by kernel_rfl) ?_ _
            clear hHeld7
            go_wp2_with fail
            go_meet
            case rel => exact ⟨_, rfl, Jq.out, ge_q.out, B.out⟩
        case rest =>
          obtain ⟨b12, rfl, hJ, hg12, hB⟩ := hcut
          have J12 : Hid (IHolds wc b12 41 (us (ws4 R0))) := hJ
          have B2 : Hid (Below W2.heap.size W2 wc) := hB
          have Hg12 : Hid (W2.heap.size ≤ b12) := hg12
          clear hJ hB hg12 JX C4
          go_wp2_with fail
          go_loopg [13] (most + s + 1) (fun gk v13 wr => ∃ j : Nat, gk + s * j = most + s + 1 ∧ v13 = .int .i64 ((s * j : Nat) : Int) ∧ NoneTo M M2 A s j most ∧ IHolds wr b12 41 (us (ws4 (A * iv ^ j * R % M2))) ∧ Below W2.heap.size W2 wr)
          case atStart => exact ⟨0, by omega, by simp, fun m h => by simp at h, by rw [← HR0.out]; exact J12.out, B2.out⟩
          case round =>
            clear J12 B2
            obtain ⟨j, hj, rfl, hNo, hJ, hB⟩ := hrel
            obtain ⟨fr, hfr⟩ : ∃ f, f = s * j := ⟨_, rfl⟩
            obtain ⟨X, hX⟩ : ∃ X, X = sgn M M2 (A * iv ^ j * R % M2) := ⟨_, rfl⟩
            obtain ⟨Nn, hNn⟩ : ∃ N, N = A * iv ^ j * R % M2 := ⟨_, rfl⟩
            obtain ⟨N2, hN2⟩ : ∃ N, N = A * iv ^ (j + 1) * R % M2 := ⟨_, rfl⟩
            have C5 : Hid (∀ W, GH W g S Wd M low one sq Wd2 M2 low2 one2 sq2 → Calls Try.prog 69 #[.pointer (some ⟨g, 0, none⟩), .agg #[U (w4 Nn 0), U (w4 Nn 1), U (w4 Nn 2), U (w4 Nn 3)]] W fun e w' => e = .returned (.agg #[U (w4 X 0), U (w4 X 1), U (w4 X 2), U (w4 X 3)]) ∧ Below W.heap.size W w') := fun W hF => by
              have q := C102.out W (A * iv ^ j * R) hF
              rw [← hX, ← hNn] at q
              exact q
            have C6 : Hid (∀ W, GH W g S Wd M low one sq Wd2 M2 low2 one2 sq2 → Calls Try.prog 54 #[.pointer (some ⟨g, 15, none⟩), .agg #[U (w4 Nn 0), U (w4 Nn 1), U (w4 Nn 2), U (w4 Nn 3)], .agg #[U (w4 Q 0), U (w4 Q 1), U (w4 Q 2), U (w4 Q 3)]] W fun e w' => e = .returned (.agg #[U (w4 N2 0), U (w4 N2 1), U (w4 N2 2), U (w4 N2 3)]) ∧ Below W.heap.size W w') := fun W hF => by
              have q := C85.out W (A * iv ^ j) iv hF
              rw [Nat.mul_assoc A (iv ^ j) iv, ← Nat.pow_succ, ← hNn, ← HQ.out, ← hN2] at q
              exact q
            rw [← hNn] at hJ
            rw [← hfr]
            have J12 : Hid (IHolds wr b12 41 (us (ws4 Nn))) := hJ
            have B2 : Hid (Below W2.heap.size W2 wr) := hB
            have HNo : Hid (NoneTo M M2 A s j most) := hNo
            have HN2 : Hid (N2 = A * iv ^ (j + 1) * R % M2) := hN2
            have HX : Hid (X = sgn M M2 (A * iv ^ j * R % M2)) := hX
            have Hfr : Hid (fr = s * j) := hfr
            have Hfr2 : Hid (fr + s = s * (j + 1)) := by show _ = _; rw [Nat.mul_add, Nat.mul_one, ← hfr]
            have hgk : gk + fr = most + s + 1 := by rw [hfr]; exact hj
            have fr9 : fr ≤ most + s + 1 := by omega
            have F1 : Hid (GH wr g S Wd M low one sq Wd2 M2 low2 one2 sq2) := aG F B2.out
            have OM2 : Hid (wr.ownsMap Try.prog 41 (plainElem (H := Unit) Try.prog 3) bm s D) := ownsMap_below OM1.out B2.out
            have J11b : Hid (IHolds wr b11 41 (us (ws4 Q))) := J11.out.of_below B2.out
            have hkey : Hid (keyOf Try.prog 41 (.agg #[U (w4 X 0), U (w4 X 1), U (w4 X 2), U (w4 X 3)]) = some (keyL X)) := keyOf_A4 X
            clear hX hNn hN2 hJ hB hNo hfr hj C102 C85
            by_cases hle : fr ≤ most
            · have k2 : (fr : Int) ≤ (most : Int) := by omega
              obtain ⟨zo0, zo1, zo2, zo3⟩ := holds4 J12.out
              go_wp2_with fail
              clear zo0 zo1 zo2 zo3
              refine (C5.out wr F1.out).mono ?_
              rintro e V1 ⟨rfl, hb⟩
              replace B2 := aB B2 hb
              replace F1 := aG F1 hb
              replace J12 := aJ J12 hb
              replace J11b := aJ J11b hb
              replace OM2 : Hid (V1.ownsMap Try.prog 41 (plainElem (H := Unit) Try.prog 3) bm s D) := ownsMap_below OM2.out hb
              clear hb C5
              cases hh : Maps.has D (keyL X)
              · have HNo2 : Hid (NoneTo M M2 A s (j + 1) most) := by
                  refine step_miss (R := R) (Ri := Ri2) (iv := iv) He2.out HM1.out HI.out HMR.out (HK4.out _) HNo.out ?_
                  rw [← HX.out]; exact hh
                go_wp2_with (at_lookup; refine wpList_lookup_own_ok_int _ rfl _ _ 84 rfl 41 3 .i64 Try.keyed66 Try.underlying84 Try.underlying3 (zr _) bm s D rfl OM2.out _ (keyL X) rfl hkey.out ?_; intro c hat hwc)
                have hb := dB V1
                replace B2 := aB B2 hb
                replace F1 := aG F1 hb
                replace J12 := aJ J12 hb
                replace J11b := aJ J11b hb
                clear hb
                refine wp_region_held_drew (S := fun W => IHolds W b11 41 (us (ws4 Q))) (by kernel_rfl) J11b.out (fun h1 => ?_)
                generalize V1.drew = V2 at *
                refine tk (i := 0) (v := .pointer (some ⟨g, 0, none⟩)) rfl (by kernel_rfl) (fun _ _ _ h => h) rfl ?_ h1 ?_
                · intro W hS; go_simp
                simp only [Act.put, y1, y2, y3, y4, y5, y6, y7]
                refine tk (i := 1) (v := .pointer (some ⟨g, 0, none⟩)) rfl (by kernel_rfl) (fun _ _ _ h => h) rfl ?_ h1 ?_
                · intro W hS; go_simp
                simp only [Act.put, y1, y2, y3, y4, y5, y6, y7]
                refine tk (i := 2) (v := .pointer (some ⟨g, 15, none⟩)) rfl (by kernel_rfl) (fun _ _ _ h => h) rfl ?_ h1 ?_
                · intro W hS; go_simp
                simp only [Act.put, y1, y2, y3, y4, y5, y6, y7]
                refine tk (i := 4) (v := .agg #[U (w4 Q 0), U (w4 Q 1), U (w4 Q 2), U (w4 Q 3)]) rfl (by kernel_rfl) (fun _ _ _ h => h) rfl ?_ h1 ?_
                · intro W hS; obtain ⟨zo0, zo1, zo2, zo3⟩ := holds4 hS; go_simp
                simp only [Act.put, y1, y2, y3, y4, y5, y6, y7]
                refine wpAnyH_ready (rs := [3]) (by kernel_rfl) (by simp) ?_
                refine AllReadyH.cons rfl (fun K hK => ?_) AllReadyH.nil
                clear h1
                obtain ⟨zo0, zo1, zo2, zo3⟩ := holds4 J12.out
                go_simp
                clear zo0 zo1 zo2 zo3
                refine hK.out _ _ J11b.out (fun h1 => ?_)
                clear hK K
                try simp only [Act.put, y1, y2, y3, y4, y5, y6, y7]
                refine wpAnyH_ready (rs := [5]) (by kernel_rfl) (by simp) ?_
                refine AllReadyH.cons rfl (fun K hK => ?_) AllReadyH.nil
                clear h1
                go_simp
                refine (C6.out V2 F1.out).mono ?_
                rintro e V3 ⟨rfl, hb⟩
                replace B2 := aB B2 hb
                replace F1 := aG F1 hb
                replace J12 := aJ J12 hb
                replace J11b := aJ J11b hb
                clear hb
                go_wp2_with fail
                refine hK.out _ _ J11b.out (fun h1 => ?_)
                clear hK K
                try simp only [Act.put, y1, y2, y3, y4, y5, y6, y7]
                refine wpAnyH_ready (rs := [6]) (by kernel_rfl) (by simp) ?_
                refine AllReadyH.cons rfl (fun K hK => ?_) AllReadyH.nil
                clear h1
                obtain ⟨zo0, zo1, zo2, zo3⟩ := holds4 J12.out
                have f0 := fJ J12
                have ne11 : b11 ≠ b12 := by have h3 := J11.out.lt; have h4 := Hg12.out; omega
                have hBut : But b12 V3 ((((V3.setCell ⟨b12, 0, none⟩ (U (w4 N2 0))).setCell ⟨b12, 1, none⟩ (U (w4 N2 1))).setCell ⟨b12, 2, none⟩ (U (w4 N2 2))).setCell ⟨b12, 3, none⟩ (U (w4 N2 3))) := ((((But.refl _ V3).setCell 0 _).setCell 1 _).setCell 2 _).setCell 3 _
                have BF : Hid (Below W2.heap.size W2 ((((V3.setCell ⟨b12, 0, none⟩ (U (w4 N2 0))).setCell ⟨b12, 1, none⟩ (U (w4 N2 1))).setCell ⟨b12, 2, none⟩ (U (w4 N2 2))).setCell ⟨b12, 3, none⟩ (U (w4 N2 3)))) := (((B2.out.setCell Hg12.out _).setCell Hg12.out _).setCell Hg12.out _).setCell Hg12.out _
                have JF : Hid (IHolds ((((V3.setCell ⟨b12, 0, none⟩ (U (w4 N2 0))).setCell ⟨b12, 1, none⟩ (U (w4 N2 1))).setCell ⟨b12, 2, none⟩ (U (w4 N2 2))).setCell ⟨b12, 3, none⟩ (U (w4 N2 3))) b12 41 (us (ws4 N2))) := (((J12.out.set 0 _).set 1 _).set 2 _).set 3 _
                replace J11b := tJ J11b hBut ne11
                clear hBut ne11 B2 J12 F1
                go_simp
                clear zo0 zo1 zo2 zo3 f0
                generalize ((((V3.setCell ⟨b12, 0, none⟩ (U (w4 N2 0))).setCell ⟨b12, 1, none⟩ (U (w4 N2 1))).setCell ⟨b12, 2, none⟩ (U (w4 N2 2))).setCell ⟨b12, 3, none⟩ (U (w4 N2 3))) = V4 at *
                refine hK.out _ _ J11b.out (fun h1 => ?_)
                clear hK K
                try simp only [Act.put, y1, y2, y3, y4, y5, y6, y7]
                refine wpAnyH_done (by kernel_rfl) ?_ _
                clear h1
                have k5 : ((s * (j + 1) : Nat) : Int) = (fr : Int) + (s : Int) := by rw [← Hfr2.out]; omega
                have K5 : Hid (((s * (j + 1) : Nat) : Int) = (fr : Int) + (s : Int)) := k5
                clear k5
                go_wp2_with fail
                go_roundg (gk - s)
                case measure => omega
                case rel => exact ⟨j + 1, by rw [← Hfr2.out]; omega, by rw [K5.out], HNo2.out, by rw [← HN2.out]; exact JF.out, BF.out⟩
              · go_upto_region 11 with (at_lookup; refine wpList_lookup_own_ok_int _ rfl _ _ 84 rfl 41 3 .i64 Try.keyed66 Try.underlying84 Try.underlying3 (zr _) bm s D rfl OM2.out _ (keyL X) rfl hkey.out ?_; intro c hat hwc)
                rw [HX.out] at hat hh
                obtain ⟨i, hi, hc, hA, h0⟩ := step_hit (i := 0) He2.out HM1.out HRi.out HI.out HA9.out HMR.out HF4.out (HK4.out _) HNo.out hat hh
                rw [← HX.out] at hh
                subst hc
                have HAi : Hid (pw2 M M2 (s * j + i) = A) := hA
                have H0 : Hid (∀ m, m < i → pw2 M M2 (s * j + m) ≠ A) := h0
                clear hat hwc hA h0
                by_cases hf : fr + i ≤ most
                · have k3 : (fr : Int) + (i : Int) ≤ (most : Int) := by omega
                  have HR : Hid (LogP M M2 A most ((fr : Int) + (i : Int)) 0) := by
                    have q := step_found HNo.out HAi.out H0.out (by rw [← Hfr.out]; exact hf)
                    rw [← Hfr.out] at q
                    rw [show ((fr : Int) + (i : Int)) = ((fr + i : Nat) : Int) by omega]
                    exact q
                  go_wp2_with fail
                  go_ret2
                  exact ⟨⟨_, _, rfl, HR.out⟩, B.out.trans (B2.out.mono B.out.size)⟩
                · have k3 : ¬ (fr : Int) + (i : Int) ≤ (most : Int) := by omega
                  have HNo2 : Hid (NoneTo M M2 A s (j + 1) most) := step_far HNo.out hi H0.out (by rw [← Hfr.out]; omega)
                  go_wp2_with fail
                  have hb := dB V1
                  replace B2 := aB B2 hb
                  replace F1 := aG F1 hb
                  replace J12 := aJ J12 hb
                  replace J11b := aJ J11b hb
                  clear hb
                  refine wp_region_held_drew (S := fun W => IHolds W b11 41 (us (ws4 Q))) (by kernel_rfl) J11b.out (fun h1 => ?_)
                  generalize V1.drew = V2 at *
                  refine tk (i := 0) (v := .pointer (some ⟨g, 0, none⟩)) rfl (by kernel_rfl) (fun _ _ _ h => h) rfl ?_ h1 ?_
                  · intro W hS; go_simp
                  simp only [Act.put, y1, y2, y3, y4, y5, y6, y7]
                  refine tk (i := 1) (v := .pointer (some ⟨g, 0, none⟩)) rfl (by kernel_rfl) (fun _ _ _ h => h) rfl ?_ h1 ?_
                  · intro W hS; go_simp
                  simp only [Act.put, y1, y2, y3, y4, y5, y6, y7]
                  refine tk (i := 2) (v := .pointer (some ⟨g, 15, none⟩)) rfl (by kernel_rfl) (fun _ _ _ h => h) rfl ?_ h1 ?_
                  · intro W hS; go_simp
                  simp only [Act.put, y1, y2, y3, y4, y5, y6, y7]
                  refine tk (i := 4) (v := .agg #[U (w4 Q 0), U (w4 Q 1), U (w4 Q 2), U (w4 Q 3)]) rfl (by kernel_rfl) (fun _ _ _ h => h) rfl ?_ h1 ?_
                  · intro W hS; obtain ⟨zo0, zo1, zo2, zo3⟩ := holds4 hS; go_simp
                  simp only [Act.put, y1, y2, y3, y4, y5, y6, y7]
                  refine wpAnyH_ready (rs := [3]) (by kernel_rfl) (by simp) ?_
                  refine AllReadyH.cons rfl (fun K hK => ?_) AllReadyH.nil
                  clear h1
                  obtain ⟨zo0, zo1, zo2, zo3⟩ := holds4 J12.out
                  go_simp
                  clear zo0 zo1 zo2 zo3
                  refine hK.out _ _ J11b.out (fun h1 => ?_)
                  clear hK K
                  try simp only [Act.put, y1, y2, y3, y4, y5, y6, y7]
                  refine wpAnyH_ready (rs := [5]) (by kernel_rfl) (by simp) ?_
                  refine AllReadyH.cons rfl (fun K hK => ?_) AllReadyH.nil
                  clear h1
                  go_simp
                  refine (C6.out V2 F1.out).mono ?_
                  rintro e V3 ⟨rfl, hb⟩
                  replace B2 := aB B2 hb
                  replace F1 := aG F1 hb
                  replace J12 := aJ J12 hb
                  replace J11b := aJ J11b hb
                  clear hb
                  go_wp2_with fail
                  refine hK.out _ _ J11b.out (fun h1 => ?_)
                  clear hK K
                  try simp only [Act.put, y1, y2, y3, y4, y5, y6, y7]
                  refine wpAnyH_ready (rs := [6]) (by kernel_rfl) (by simp) ?_
                  refine AllReadyH.cons rfl (fun K hK => ?_) AllReadyH.nil
                  clear h1
                  obtain ⟨zo0, zo1, zo2, zo3⟩ := holds4 J12.out
                  have f0 := fJ J12
                  have ne11 : b11 ≠ b12 := by have h3 := J11.out.lt; have h4 := Hg12.out; omega
                  have hBut : But b12 V3 ((((V3.setCell ⟨b12, 0, none⟩ (U (w4 N2 0))).setCell ⟨b12, 1, none⟩ (U (w4 N2 1))).setCell ⟨b12, 2, none⟩ (U (w4 N2 2))).setCell ⟨b12, 3, none⟩ (U (w4 N2 3))) := ((((But.refl _ V3).setCell 0 _).setCell 1 _).setCell 2 _).setCell 3 _
                  have BF : Hid (Below W2.heap.size W2 ((((V3.setCell ⟨b12, 0, none⟩ (U (w4 N2 0))).setCell ⟨b12, 1, none⟩ (U (w4 N2 1))).setCell ⟨b12, 2, none⟩ (U (w4 N2 2))).setCell ⟨b12, 3, none⟩ (U (w4 N2 3)))) := (((B2.out.setCell Hg12.out _).setCell Hg12.out _).setCell Hg12.out _).setCell Hg12.out _
                  have JF : Hid (IHolds ((((V3.setCell ⟨b12, 0, none⟩ (U (w4 N2 0))).setCell ⟨b12, 1, none⟩ (U (w4 N2 1))).setCell ⟨b12, 2, none⟩ (U (w4 N2 2))).setCell ⟨b12, 3, none⟩ (U (w4 N2 3))) b12 41 (us (ws4 N2))) := (((J12.out.set 0 _).set 1 _).set 2 _).set 3 _
                  replace J11b := tJ J11b hBut ne11
                  clear hBut ne11 B2 J12 F1
                  go_simp
                  clear zo0 zo1 zo2 zo3 f0
                  generalize ((((V3.setCell ⟨b12, 0, none⟩ (U (w4 N2 0))).setCell ⟨b12, 1, none⟩ (U (w4 N2 1))).setCell ⟨b12, 2, none⟩ (U (w4 N2 2))).setCell ⟨b12, 3, none⟩ (U (w4 N2 3))) = V4 at *
                  refine hK.out _ _ J11b.out (fun h1 => ?_)
                  clear hK K
                  try simp only [Act.put, y1, y2, y3, y4, y5, y6, y7]
                  refine wpAnyH_done (by kernel_rfl) ?_ _
                  clear h1
                  have k5 : ((s * (j + 1) : Nat) : Int) = (fr : Int) + (s : Int) := by rw [← Hfr2.out]; omega
                  have K5 : Hid (((s * (j + 1) : Nat) : Int) = (fr : Int) + (s : Int)) := k5
                  clear k5
                  go_wp2_with fail
                  go_roundg (gk - s)
                  case measure => omega
                  case rel => exact ⟨j + 1, by rw [← Hfr2.out]; omega, by rw [K5.out], HNo2.out, by rw [← HN2.out]; exact JF.out, BF.out⟩
            · have k2 : ¬ (fr : Int) ≤ (most : Int) := by omega
              have HR : Hid (LogP M M2 A most 0 9) := step_none HNo.out (by rw [← Hfr.out]; omega)
              go_wp2_with fail
              go_ret2
              exact ⟨⟨_, _, rfl, HR.out⟩, B.out.trans (B2.out.mono B.out.size)⟩
end
end Go.Proofs.Ytckfdpiohkggaab
