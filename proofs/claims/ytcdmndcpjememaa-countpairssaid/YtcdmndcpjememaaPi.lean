/- Ways: the document's. -/
import Derived.Test.YtcdmndcpjememaaPs
import Derived.Deep.Cut
set_option linter.unusedSimpArgs false
set_option linter.unusedVariables false
set_option maxRecDepth 100000
namespace Go.Proofs.Ytcdmndcpjememaa
open Go.RowKit Go.Deep Go.PlainAid

set_option maxHeartbeats 1000000 in
theorem refPaths8_bad {w : World} {a : Option Addr} {n c : Nat} {k : Int} (hk : k ≠ 0) (C : Calls Try.prog 18 #[.slice a n c] w fun e w' => e = .returned (.int .i64 k) ∧ Below w.heap.size w w') :
    Calls Try.prog 8 #[.slice a n c] w fun e w' => e = .returned (.tuple #[.slice none 0 0, .int .i64 k]) ∧ Below w.heap.size w w' := by
  have H : Hid (Calls Try.prog 18 #[.slice a n c] w fun e w' => e = .returned (.int .i64 k) ∧ Below w.heap.size w w') := C
  have k0 : (k != 0) = true := by simpa using hk
  clear C hk
  go_enter Try.func8, Try.ntmps8
  go_wp2_with (go_at_call 18; refine (H.out).mono ?_; rintro e V1 ⟨rfl, hB⟩; have B1 : Hid (Below w.heap.size w V1) := hB; clear hB H)
  exact bodyPost_ret (v := .tuple #[.slice none 0 0, .int .i64 k]) (by simp [results, Try.results8, go_sem]) rfl ⟨rfl, B1.out⟩
theorem tot_zero (n : Nat) : tot n (fun _ _ => 0) = 0 := by
  have q : tot n (fun _ _ => 0) ≤ n * 0 := sumTo_le n fun i hi => by
    have := sumTo_le (f := fun _ => (0 : Int).toNat) (c := 0) n (fun j hj => by simp)
    simpa using this
  omega
theorem qt_a {P M : Mt} {i j k : Nat} (e : i = j) : Qt P M i j k := fun h => by simp [rfT, e] at h
theorem qt_b {P M : Mt} {i j k : Nat} (e : P k j ≤ P j k) : Qt P M i j k := fun h => by simp only [rfT, decide_eq_true_eq] at h; omega
theorem qt_c {P M : Mt} {i j k : Nat} (e : k ≠ i) (h0 : M i k = 0) : Qt P M i j k := fun h => by simp only [rfT, decide_eq_true_eq] at h; rcases h.2.2 with h | h <;> contradiction
theorem rfS_same {P M : Mt} {i j k : Nat} (e : k = i) : rfS P M i j k = P k j := by simp [rfS, e]
theorem rfS_lt {P M : Mt} {i j k : Nat} (e : k ≠ i) (h : M i k < P k j) : rfS P M i j k = M i k := by simp [rfS, e, h]
theorem rfS_ge {P M : Mt} {i j k : Nat} (h : ¬ M i k < P k j) : rfS P M i j k = P k j := by simp [rfS, h]
theorem rfT_yes {P M : Mt} {i j k : Nat} (h1 : i ≠ j) (h2 : ¬ P k j ≤ P j k) (h3 : k = i ∨ M i k ≠ 0) : rfT P M i j k = true := by simp only [rfT, decide_eq_true_eq]; exact ⟨h1, by omega, h3⟩
set_option maxHeartbeats 8000000 in
theorem refPaths8_ok {w : World} {a : Option Addr} {n c : Nat} {P : Mt} (hn : n ≤ 12) (hs : SQ w a n P) (hp : ∀ i j, i < n → j < n → P i j ≤ 1099511627776) (C : Calls Try.prog 18 #[.slice a n c] w fun e w' => e = .returned (.int .i64 0) ∧ Below w.heap.size w w') :
    Calls Try.prog 8 #[.slice a n c] w fun e w' => (∃ b M, e = .returned (.tuple #[.slice (some ⟨b, 0, none⟩) n n, .int .i64 0]) ∧ Str P n M ∧ MX w' b n M) ∧ Below w.heap.size w w' := by
  have HC : Hid (Calls Try.prog 18 #[.slice a n c] w fun e w' => e = .returned (.int .i64 0) ∧ Below w.heap.size w w') := C
  have HS : Hid (SQ w a n P) := hs
  have HP : Hid (∀ i j, i < n → j < n → P i j ≤ 1099511627776) := hp
  have M2 : Hid (∀ W, (Instr.makeSlice 31 (.int .i64 (n : Int)) (.int .i64 (n : Int))).run Try.prog W = .ok (.slice (some ⟨W.heap.size, 0, none⟩) n n) (W.alloc (.cells (rowV n (fun _ => 0)).toArray 3))) := fun W => make31 n (by omega) W
  have MM : Hid (∀ W, (Instr.makeSlice 25 (.int .i64 (n : Int)) (.int .i64 (n : Int))).run Try.prog W = .ok (.slice (some ⟨W.heap.size, 0, none⟩) n n) (W.alloc (.cells (hd W.heap.size n 0).toArray 31))) := fun W => make25 n (by omega) W
  clear C hs hp
  go_enter Try.func8, Try.ntmps8
  go_upto_region 5 with (go_at_call 18; refine (HC.out).mono ?_; rintro e U ⟨rfl, hB⟩; have B0 : Hid (Below w.heap.size w U) := hB; clear hB HC)
  have mm := MM.out U
  have Z0 : Hid (ZR U n 0 (U.alloc (.cells (hd U.heap.size n 0).toArray 31))) := ZR.start U n
  go_wp2_with fail
  generalize U.alloc (.cells (hd U.heap.size n 0).toArray 31) = U1 at *
  clear mm MM
  obtain ⟨b, hb⟩ : ∃ b, b = U.heap.size := ⟨_, rfl⟩
  rw [← hb]
  have Hb : Hid (b = U.heap.size) := hb
  clear hb
  go_loopg [7, 24] n (fun gk v7 v24 wr => ∃ i : Nat, i + gk = n ∧ v24 = .int .i64 (i : Int) ∧ ZR U n i wr)
  case atStart => exact ⟨0, by omega, rfl, Z0.out⟩
  case round =>
    obtain ⟨i, hig, rfl, hZ⟩ := hrel
    have Z : Hid (ZR U n i wr) := hZ
    clear hZ Z0
    by_cases hi : i < n
    · have il : (i : Int) < (n : Int) := by omega
      have m2 := M2.out wr
      have cc := (Z.out.top.alloc (.cells (rowV n (fun _ => 0)).toArray 3)).cell i (by rw [hd_len]; exact hi)
      have f := (Z.out.top.alloc (.cells (rowV n (fun _ => 0)).toArray 3)).frozen i
      have Z1 : Hid (ZR U n (i + 1) ((wr.alloc (.cells (rowV n (fun _ => 0)).toArray 3)).setCell ⟨U.heap.size, i, none⟩ (.slice (some ⟨wr.heap.size, 0, none⟩) n n))) := Z.out.step hi
      rw [← Hb.out] at cc f Z1
      generalize (hd b n i)[i]'(by rw [hd_len]; exact hi) = x at *
      generalize (wr.alloc (.cells (rowV n (fun _ => 0)).toArray 3)) = V at *
      go_wp2_with fail
      go_roundg (gk - 1)
      case measure => omega
      case rel => exact ⟨i + 1, by omega, by go_num, Z1.out⟩
    · have il : ¬ (i : Int) < (n : Int) := by omega
      have e : i = n := by omega
      subst e
      have K0 : Hid (MX wr b i (fun _ _ => 0)) := by rw [Hb.out]; exact Z.out.done
      have B1 : Hid (Below w.heap.size w wr) := B0.out.trans (Z.out.below.mono B0.out.size)
      have HW : Hid (w.heap.size ≤ b) := by have := B0.out.size; have := Hb.out; show _ ≤ _; omega
      clear Z B0 Hb M2
      obtain ⟨B, hBB⟩ : ∃ B, B = i * (i * 1099511627776) := ⟨_, rfl⟩
      have HBB : Hid (∀ M : Mt, (∀ x y, x < i → y < i → M x y ≤ 1099511627776) → tot i M ≤ B) := fun M h => by rw [hBB]; exact tot_le h
      clear hBB
      obtain ⟨n, rfl⟩ : ∃ n, n = i := ⟨i, rfl⟩
      clear hi il
      go_wp2_with fail
      go_loopg [8, 9, 10, 11, 12] (2 * B + 1) (fun gk2 v8 v9 v10 v11 v12 wr2 => ∃ (M : Mt) (ag : Bool), v8 = .bool ag ∧ Snd P n M ∧ (∀ x y, x < n → y < n → M x y ≤ 1099511627776) ∧ gk2 = 2 * (B - tot n M) + (if ag then 1 else 0) ∧ (ag = false → ∀ x y z, x < n → y < n → z < n → Qt P M x y z) ∧ MX wr2 b n M ∧ Below w.heap.size w wr2)
      case atStart => exact ⟨_, true, rfl, zero_snd P n, (fun _ _ _ _ => by omega), (by rw [tot_zero]; simp), (fun e => by simp at e), K0.out, B1.out⟩
      case round =>
        clear K0 B1
        obtain ⟨M, ag, rfl, hS, hH, hg, hQ, hM, hB⟩ := hrel
        have S1 : Hid (Snd P n M) := hS
        have H1 : Hid (∀ x y, x < n → y < n → M x y ≤ 1099511627776) := hH
        have Q1 : Hid (ag = false → ∀ x y z, x < n → y < n → z < n → Qt P M x y z) := hQ
        have M1 : Hid (MX wr b n M) := hM
        have B1 : Hid (Below w.heap.size w wr) := hB
        have T1 : Hid (tot n M ≤ B) := HBB.out M hH
        clear hS hH hQ hM hB
        cases ag with
        | false =>
          have ST : Hid (Str P n M) := str_of_quiet S1.out (Q1.out rfl)
          clear hg
          go_wp2_with fail
          exact bodyPost_ret (v := .tuple #[.slice (some ⟨b, 0, none⟩) n n, .int .i64 0]) (by simp [results, Try.results8, go_sem]) rfl ⟨⟨b, rfl, M, ST.out, M1.out⟩, B1.out⟩
        | true =>
          obtain ⟨T0, hT0⟩ : ∃ T, T = tot n M := ⟨_, rfl⟩
          have R1 : Hid (RfI P n T0 0 0 0 M false) := ⟨S1.out, H1.out, by omega, fun e => by simp at e, fun _ x y z _ _ _ h => by omega⟩
          have hg' : Hid (gk = 2 * (B - T0) + 1 ∧ T0 ≤ B) := ⟨by rw [hT0]; simpa using hg, by rw [hT0]; exact T1.out⟩
          clear hg hT0 S1 H1 Q1 T1
          obtain ⟨G1, rfl⟩ : ∃ G, G = gk := ⟨gk, rfl⟩
          go_wp2_with fail
          go_loopg [8, 9, 10, 11, 12] n (fun gk3 v8 v9 v10 v11 v12 wr2 => ∃ (i : Nat) (M : Mt) (ag : Bool), i + gk3 = n ∧ v9 = .int .i64 (i : Int) ∧ v8 = .bool ag ∧ RfI P n T0 i 0 0 M ag ∧ MX wr2 b n M ∧ Below w.heap.size w wr2)
          case atStart => exact ⟨0, M, false, by omega, rfl, rfl, R1.out, M1.out, B1.out⟩
          case round =>
            clear R1 M1 B1
            obtain ⟨i, M2, ag, hig, rfl, rfl, hR, hM, hB⟩ := hrel
            have R2 : Hid (RfI P n T0 i 0 0 M2 ag) := hR
            have K2 : Hid (MX wr b n M2) := hM
            have B2 : Hid (Below w.heap.size w wr) := hB
            clear hR hM hB
            by_cases hi : i < n
            · have il : (i : Int) < (n : Int) := by omega
              obtain ⟨G2, rfl⟩ : ∃ G, G = gk := ⟨gk, rfl⟩
              go_wp2_with fail
              go_loopg [8, 10, 11, 12] n (fun gk4 v8 v10 v11 v12 wr2 => ∃ (j : Nat) (M : Mt) (ag : Bool), j + gk4 = n ∧ v10 = .int .i64 (j : Int) ∧ v8 = .bool ag ∧ RfI P n T0 i j 0 M ag ∧ MX wr2 b n M ∧ Below w.heap.size w wr2)
              case atStart => exact ⟨0, M2, ag, by omega, rfl, rfl, R2.out, K2.out, B2.out⟩
              case round =>
                clear R2 K2 B2
                obtain ⟨j, M3, ag, hjg, rfl, rfl, hR, hM, hB⟩ := hrel
                have R3 : Hid (RfI P n T0 i j 0 M3 ag) := hR
                have K3 : Hid (MX wr b n M3) := hM
                have B3 : Hid (Below w.heap.size w wr) := hB
                clear hR hM hB
                by_cases hj : j < n
                · have jl : (j : Int) < (n : Int) := by omega
                  obtain ⟨G3, rfl⟩ : ∃ G, G = gk := ⟨gk, rfl⟩
                  go_wp2_with fail
                  go_loopg [8, 11, 12] n (fun gk5 v8 v11 v12 wr2 => ∃ (k : Nat) (M : Mt) (ag : Bool), k + gk5 = n ∧ v11 = .int .i64 (k : Int) ∧ v8 = .bool ag ∧ RfI P n T0 i j k M ag ∧ MX wr2 b n M ∧ Below w.heap.size w wr2)
                  case atStart => exact ⟨0, M3, ag, by omega, rfl, rfl, R3.out, K3.out, B3.out⟩
                  case round =>
                    clear R3 K3 B3
                    obtain ⟨k, M, ag, hkg, rfl, rfl, hR, hM, hB⟩ := hrel
                    have R4 : Hid (RfI P n T0 i j k M ag) := hR
                    have B4 : Hid (Below w.heap.size w wr.drew) := hB.drew
                    have K4 : Hid (MX wr.drew b n M) := ⟨hM.top, hM.row⟩
                    have K0 : Hid (MX wr b n M) := hM
                    have B0 : Hid (Below w.heap.size w wr) := hB
                    clear hR hM hB
                    by_cases hk : k < n
                    · have kl : (k : Int) < (n : Int) := by omega
                      obtain ⟨sb, so, x1, x2, yc1, rfl, kc1⟩ := HS.out.two hk hj
                      obtain ⟨sb', so', x3, x4, yc2, e', kc2⟩ := HS.out.two hj hk
                      cases e'
                      obtain ⟨p1, p2⟩ := kc1 _ B4.out
                      obtain ⟨p3, p4⟩ := kc2 _ B4.out
                      clear kc1 kc2
                      have k1 := K4.out.hdr hi
                      have k2 := K4.out.at hi hk
                      have k3 := K4.out.at hi hj
                      have k4 := K4.out.frz hi j
                      have STAY : Hid (Qt P M i j k → RfI P n T0 i j (k + 1) M ag) := fun q => R4.out.stay q
                      have PUT : Hid (∀ v, rfS P M i j k = v → rfT P M i j k = true → M i j < v → RfI P n T0 i j (k + 1) (upd M i j v) true ∧ MX (wr.drew.setCell ⟨b + 1 + i, j, none⟩ (.int .i64 v)) b n (upd M i j v) ∧ Below w.heap.size w (wr.drew.setCell ⟨b + 1 + i, j, none⟩ (.int .i64 v))) := fun v hv ht hx => by
                        subst hv
                        exact ⟨R4.out.put HP.out hi hj hk ht hx, K4.out.set hi hj _, B4.out.setCell (by have := HW.out; show _ ≤ b + 1 + i; omega) _⟩
                      clear R4 K0 B0
                      by_cases hij : i = j
                      · have e1 : ((i : Int) == (j : Int)) = true := by simp [hij]
                        have RS : Hid (RfI P n T0 i j (k + 1) M ag) := STAY.out (qt_a hij)
                        clear STAY PUT
                        generalize M i k = mik at *
                        generalize M i j = mij at *
                        generalize P k j = pkj at *
                        generalize P j k = pjk at *
                        go_wp2_with fail
                        refine wp_region_noPanic ?_
                        refine rg23_1 il jl kl e1 (fun _ _ _ _ h => h) ?_
                        intro u49 u50 u51 u52 u53 u54 u55 u56 u57 u58 u59 u60 u61 u62 u63 u64 u65 u66 u67 u68 u69 u70 u71 u72 u73 u74 u75 u76 u77 u78 u79 u80 u81 u82
                        refine NoPanic.normal ?_
                        try dsimp only
                        generalize wr.drew = X at *
                        go_wp2_with fail
                        go_roundg (gk - 1)
                        case measure => omega
                        case rel => exact ⟨k + 1, M, ag, by omega, by go_num, rfl, RS.out, K4.out, B4.out⟩
                      · have e1 : ((i : Int) == (j : Int)) = false := by simp; omega
                        by_cases hle : P k j ≤ P j k
                        · skip
                          have RS : Hid (RfI P n T0 i j (k + 1) M ag) := STAY.out (qt_b hle)
                          clear STAY PUT
                          generalize M i k = mik at *
                          generalize M i j = mij at *
                          generalize P k j = pkj at *
                          generalize P j k = pjk at *
                          go_wp2_with fail
                          refine wp_region_noPanic ?_
                          refine rg23_2 il jl kl e1 hle p1 p2 p3 p4 (fun _ _ _ _ h => h) ?_
                          intro u49 u50 u51 u52 u53 u54 u55 u56 u57 u58 u59 u60 u61 u62 u63 u64 u65 u66 u67 u68 u69 u70 u71 u72 u73 u74 u75 u76 u77 u78 u79 u80 u81 u82
                          refine NoPanic.normal ?_
                          try dsimp only
                          generalize wr.drew = X at *
                          go_wp2_with fail
                          go_roundg (gk - 1)
                          case measure => omega
                          case rel => exact ⟨k + 1, M, ag, by omega, by go_num, rfl, RS.out, K4.out, B4.out⟩
                        · by_cases hki : k = i
                          · have e2 : ((k : Int) != (i : Int)) = false := by simp [hki]
                            by_cases hx : M i j < P k j
                            · skip
                              obtain ⟨rs, ks, bs⟩ := PUT.out (P k j) (rfS_same hki) (rfT_yes hij hle (Or.inl hki)) hx
                              have RS : Hid (RfI P n T0 i j (k + 1) (upd M i j (P k j)) true) := rs
                              have KS : Hid (MX (wr.drew.setCell ⟨b + 1 + i, j, none⟩ (.int .i64 (P k j))) b n (upd M i j (P k j))) := ks
                              have BS : Hid (Below w.heap.size w (wr.drew.setCell ⟨b + 1 + i, j, none⟩ (.int .i64 (P k j)))) := bs
                              clear STAY PUT rs ks bs
                              generalize M i k = mik at *
                              generalize M i j = mij at *
                              generalize P k j = pkj at *
                              generalize P j k = pjk at *
                              try clear hki
                              go_wp2_with fail
                              refine wp_region_noPanic ?_
                              refine rg23_3 il jl kl e1 (Int.not_le.2 hle) e2 p1 p2 p3 p4 (fun _ _ _ _ h => h) ?_
                              intro u49 u50 u51 u52 u53 u54 u55 u56 u57 u58 u59 u60 u61 u62 u63 u64 u65 u66 u67 u68 u69 u70 u71 u72 u73 u74 u75 u76 u77 u78 u79 u80 u81 u82
                              refine NoPanic.normal ?_
                              try dsimp only
                              generalize wr.drew = X at *
                              go_wp2_with fail
                              go_roundg (gk - 1)
                              case measure => omega
                              case rel => exact ⟨k + 1, _, true, by omega, by go_num, rfl, RS.out, KS.out, BS.out⟩
                            · skip
                              have RS : Hid (RfI P n T0 i j (k + 1) M ag) := STAY.out (fun _ => by rw [rfS_same hki]; omega)
                              clear STAY PUT
                              generalize M i k = mik at *
                              generalize M i j = mij at *
                              generalize P k j = pkj at *
                              generalize P j k = pjk at *
                              try clear hki
                              go_wp2_with fail
                              refine wp_region_noPanic ?_
                              refine rg23_3 il jl kl e1 (Int.not_le.2 hle) e2 p1 p2 p3 p4 (fun _ _ _ _ h => h) ?_
                              intro u49 u50 u51 u52 u53 u54 u55 u56 u57 u58 u59 u60 u61 u62 u63 u64 u65 u66 u67 u68 u69 u70 u71 u72 u73 u74 u75 u76 u77 u78 u79 u80 u81 u82
                              refine NoPanic.normal ?_
                              try dsimp only
                              generalize wr.drew = X at *
                              go_wp2_with fail
                              go_roundg (gk - 1)
                              case measure => omega
                              case rel => exact ⟨k + 1, M, ag, by omega, by go_num, rfl, RS.out, K4.out, B4.out⟩
                          · have e2 : ((k : Int) != (i : Int)) = true := by simp; omega
                            by_cases h0 : M i k = 0
                            · have e3 : (M i k == 0) = true := by simpa using h0
                              have RS : Hid (RfI P n T0 i j (k + 1) M ag) := STAY.out (qt_c hki h0)
                              clear STAY PUT
                              generalize M i k = mik at *
                              generalize M i j = mij at *
                              generalize P k j = pkj at *
                              generalize P j k = pjk at *
                              clear h0
                              go_wp2_with fail
                              refine wp_region_noPanic ?_
                              refine rg23_4 il jl kl e1 (Int.not_le.2 hle) e2 e3 p1 p2 p3 p4 k1 k2 (fun _ _ _ _ h => h) ?_
                              intro u49 u50 u51 u52 u53 u54 u55 u56 u57 u58 u59 u60 u61 u62 u63 u64 u65 u66 u67 u68 u69 u70 u71 u72 u73 u74 u75 u76 u77 u78 u79 u80 u81 u82
                              refine NoPanic.normal ?_
                              try dsimp only
                              generalize wr.drew = X at *
                              go_wp2_with fail
                              go_roundg (gk - 1)
                              case measure => omega
                              case rel => exact ⟨k + 1, M, ag, by omega, by go_num, rfl, RS.out, K4.out, B4.out⟩
                            · have e3 : (M i k == 0) = false := by simpa using h0
                              by_cases hs : M i k < P k j
                              · by_cases hx : M i j < M i k
                                · skip
                                  obtain ⟨rs, ks, bs⟩ := PUT.out (M i k) (rfS_lt hki hs) (rfT_yes hij hle (Or.inr h0)) hx
                                  have RS : Hid (RfI P n T0 i j (k + 1) (upd M i j (M i k)) true) := rs
                                  have KS : Hid (MX (wr.drew.setCell ⟨b + 1 + i, j, none⟩ (.int .i64 (M i k))) b n (upd M i j (M i k))) := ks
                                  have BS : Hid (Below w.heap.size w (wr.drew.setCell ⟨b + 1 + i, j, none⟩ (.int .i64 (M i k)))) := bs
                                  clear STAY PUT rs ks bs
                                  generalize M i k = mik at *
                                  generalize M i j = mij at *
                                  generalize P k j = pkj at *
                                  generalize P j k = pjk at *
                                  go_wp2_with fail
                                  refine wp_region_noPanic ?_
                                  refine rg23_5 il jl kl e1 (Int.not_le.2 hle) e2 e3 p1 p2 p3 p4 k1 k2 (fun _ _ _ _ h => h) ?_
                                  intro u49 u50 u51 u52 u53 u54 u55 u56 u57 u58 u59 u60 u61 u62 u63 u64 u65 u66 u67 u68 u69 u70 u71 u72 u73 u74 u75 u76 u77 u78 u79 u80 u81 u82
                                  refine NoPanic.normal ?_
                                  try dsimp only
                                  generalize wr.drew = X at *
                                  go_wp2_with fail
                                  go_roundg (gk - 1)
                                  case measure => omega
                                  case rel => exact ⟨k + 1, _, true, by omega, by go_num, rfl, RS.out, KS.out, BS.out⟩
                                · skip
                                  have RS : Hid (RfI P n T0 i j (k + 1) M ag) := STAY.out (fun _ => by rw [rfS_lt hki hs]; omega)
                                  clear STAY PUT
                                  generalize M i k = mik at *
                                  generalize M i j = mij at *
                                  generalize P k j = pkj at *
                                  generalize P j k = pjk at *
                                  go_wp2_with fail
                                  refine wp_region_noPanic ?_
                                  refine rg23_5 il jl kl e1 (Int.not_le.2 hle) e2 e3 p1 p2 p3 p4 k1 k2 (fun _ _ _ _ h => h) ?_
                                  intro u49 u50 u51 u52 u53 u54 u55 u56 u57 u58 u59 u60 u61 u62 u63 u64 u65 u66 u67 u68 u69 u70 u71 u72 u73 u74 u75 u76 u77 u78 u79 u80 u81 u82
                                  refine NoPanic.normal ?_
                                  try dsimp only
                                  generalize wr.drew = X at *
                                  go_wp2_with fail
                                  go_roundg (gk - 1)
                                  case measure => omega
                                  case rel => exact ⟨k + 1, M, ag, by omega, by go_num, rfl, RS.out, K4.out, B4.out⟩
                              · by_cases hx : M i j < P k j
                                · skip
                                  obtain ⟨rs, ks, bs⟩ := PUT.out (P k j) (rfS_ge hs) (rfT_yes hij hle (Or.inr h0)) hx
                                  have RS : Hid (RfI P n T0 i j (k + 1) (upd M i j (P k j)) true) := rs
                                  have KS : Hid (MX (wr.drew.setCell ⟨b + 1 + i, j, none⟩ (.int .i64 (P k j))) b n (upd M i j (P k j))) := ks
                                  have BS : Hid (Below w.heap.size w (wr.drew.setCell ⟨b + 1 + i, j, none⟩ (.int .i64 (P k j)))) := bs
                                  clear STAY PUT rs ks bs
                                  generalize M i k = mik at *
                                  generalize M i j = mij at *
                                  generalize P k j = pkj at *
                                  generalize P j k = pjk at *
                                  go_wp2_with fail
                                  refine wp_region_noPanic ?_
                                  refine rg23_5 il jl kl e1 (Int.not_le.2 hle) e2 e3 p1 p2 p3 p4 k1 k2 (fun _ _ _ _ h => h) ?_
                                  intro u49 u50 u51 u52 u53 u54 u55 u56 u57 u58 u59 u60 u61 u62 u63 u64 u65 u66 u67 u68 u69 u70 u71 u72 u73 u74 u75 u76 u77 u78 u79 u80 u81 u82
                                  refine NoPanic.normal ?_
                                  try dsimp only
                                  generalize wr.drew = X at *
                                  go_wp2_with fail
                                  go_roundg (gk - 1)
                                  case measure => omega
                                  case rel => exact ⟨k + 1, _, true, by omega, by go_num, rfl, RS.out, KS.out, BS.out⟩
                                · skip
                                  have RS : Hid (RfI P n T0 i j (k + 1) M ag) := STAY.out (fun _ => by rw [rfS_ge hs]; omega)
                                  clear STAY PUT
                                  generalize M i k = mik at *
                                  generalize M i j = mij at *
                                  generalize P k j = pkj at *
                                  generalize P j k = pjk at *
                                  go_wp2_with fail
                                  refine wp_region_noPanic ?_
                                  refine rg23_5 il jl kl e1 (Int.not_le.2 hle) e2 e3 p1 p2 p3 p4 k1 k2 (fun _ _ _ _ h => h) ?_
                                  intro u49 u50 u51 u52 u53 u54 u55 u56 u57 u58 u59 u60 u61 u62 u63 u64 u65 u66 u67 u68 u69 u70 u71 u72 u73 u74 u75 u76 u77 u78 u79 u80 u81 u82
                                  refine NoPanic.normal ?_
                                  try dsimp only
                                  generalize wr.drew = X at *
                                  go_wp2_with fail
                                  go_roundg (gk - 1)
                                  case measure => omega
                                  case rel => exact ⟨k + 1, M, ag, by omega, by go_num, rfl, RS.out, K4.out, B4.out⟩
                    · have kl : ¬ (k : Int) < (n : Int) := by omega
                      have e : k = n := by omega
                      subst e
                      have R5 : Hid (RfI P k T0 i (j + 1) 0 M ag) := R4.out.endk
                      go_wp2_with fail
                      go_roundg (G3 - 1)
                      case measure => omega
                      case rel => exact ⟨j + 1, M, ag, by omega, by go_num, rfl, R5.out, K0.out, B0.out⟩
                · have jl : ¬ (j : Int) < (n : Int) := by omega
                  have e : j = n := by omega
                  subst e
                  have R5 : Hid (RfI P j T0 (i + 1) 0 0 M3 ag) := R3.out.endj
                  go_wp2_with fail
                  go_roundg (G2 - 1)
                  case measure => omega
                  case rel => exact ⟨i + 1, M3, ag, by omega, by go_num, rfl, R5.out, K3.out, B3.out⟩
            · have il : ¬ (i : Int) < (n : Int) := by omega
              have e : i = n := by omega
              subst e
              have T2 : Hid (tot i M2 ≤ B) := HBB.out M2 R2.out.hi
              have GN : Hid (2 * (B - tot i M2) + (if ag then 1 else 0) < G1) := by
                have q1 := hg'.out
                have q2 := R2.out.inc
                have q3 := R2.out.inc2
                have q4 := T2.out
                show _ < _
                cases ag with
                | true => have := q3 rfl; simp; omega
                | false => simp; omega
              have Q5 : Hid (ag = false → ∀ x y z, x < i → y < i → z < i → Qt P M2 x y z) := fun e x y z hx hy hz => R2.out.qt e x y z hx hy hz (Or.inl hx)
              go_wp2_with fail
              go_roundg (2 * (B - tot i M2) + (if ag then 1 else 0))
              case measure => exact GN.out
              case rel => exact ⟨M2, ag, rfl, R2.out.snd, R2.out.hi, rfl, Q5.out, K2.out, B2.out⟩
end Go.Proofs.Ytcdmndcpjememaa
