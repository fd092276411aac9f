/- What the document's WrongPlaces tells. The document's weight and Value. The document's Value, Weights, Through, Together. The document's Weights and Together of right places. The program's Weights and Together, and the law TrustJoins. -/
import Derived.Test.YtlimogamjgehjaaGreatT2
import Derived.Deep.RegionHeld3
import Derived.Deep.AppendLies
import Derived.Test.YtlimogamjgehjaaGreatP1
set_option linter.unusedSimpArgs false
set_option linter.unusedVariables false
set_option maxRecDepth 100000
namespace Go.Proofs.YtlimogamjgehjaaGreat
open Go.RowKit Go.Deep Go.PlainAid

/-- What is wrong with places. -/
def WP (P : List Int) : Int := if 16 < P.length then 3 else if P.length = 0 then 2 else if P.any nop = true then 4 else if twi P P.length = true then 10 else 0
theorem nop_eq (x : Int) : nop x = (decide (x < 0) || decide (255 < x)) := rfl
set_option maxHeartbeats 4000000 in
theorem refPlaces14 {w : World} {a : Option Addr} {P : List Int} {c : Nat} (ia : IL w a P) :
    Calls Tryz.prog 14 #[.slice a P.length c] w fun e w' => e = .returned (.int .i64 (WP P)) ∧ Below w.heap.size w w' := by
  have HS : Hid (IL w a P) := ia
  obtain ⟨cz, hcz⟩ : ∃ cz : Int, cz = WP P := ⟨_, rfl⟩
  rw [← hcz]
  have C3 : Hid (16 < P.length → cz = 3) := fun h => by rw [hcz, WP, if_pos h]
  have C2 : Hid (P.length = 0 → cz = 2) := fun h => by rw [hcz, WP, if_neg (by omega), if_pos h]
  have C4 : Hid (¬ 16 < P.length → ¬ P.length = 0 → P.any nop = true → cz = 4) := fun h h2 h3 => by rw [hcz, WP, if_neg h, if_neg h2, if_pos h3]
  have CA : Hid (¬ 16 < P.length → ¬ P.length = 0 → P.any nop = false → twi P P.length = true → cz = 10) := fun h h2 h3 h4 => by rw [hcz, WP, if_neg h, if_neg h2, h3, if_neg (by decide), if_pos h4]
  have C0 : Hid (¬ 16 < P.length → ¬ P.length = 0 → P.any nop = false → twi P P.length = false → cz = 0) := fun h h2 h3 h4 => by rw [hcz, WP, if_neg h, if_neg h2, h3, if_neg (by decide), h4, if_neg (by decide)]
  clear ia hcz
  by_cases h16 : 16 < P.length
  · have k1 : (16 : Int) < (P.length : Int) := by omega
    have e3 : Hid (cz = 3) := C3.out h16
    clear h16
    go_enter Tryz.func14, Tryz.ntmps14
    go_wp2_with fail
    go_ret
    exact ⟨by rw [e3.out]; rfl, Below.refl _ _⟩
  have k1 : ¬ (16 : Int) < (P.length : Int) := by omega
  by_cases h0 : P.length = 0
  · have k2 : ((P.length : Int) == 0) = true := by simp [h0]
    have e3 : Hid (cz = 2) := C2.out h0
    clear h0 h16
    go_enter Tryz.func14, Tryz.ntmps14
    go_wp2_with fail
    go_ret
    exact ⟨by rw [e3.out]; rfl, Below.refl _ _⟩
  have k2 : ((P.length : Int) == 0) = false := beq_eq_false_iff_ne.2 (by omega)
  have A1 : Hid (¬ 16 < P.length) := h16
  have A2 : Hid (¬ P.length = 0) := h0
  have h17 : P.length ≤ 16 := by omega
  clear h16 h0
  go_enter Tryz.func14, Tryz.ntmps14
  go_wp2_with fail
  go_loopg [4, 16] P.length (fun gk v4 v16 wr => ∃ i : Nat, i + gk = P.length ∧ v16 = .int .i64 (i : Int) ∧ Below w.heap.size w wr ∧ (P.take i).any nop = false)
  case atStart => exact ⟨0, by omega, rfl, Below.refl _ _, by simp⟩
  case round =>
    obtain ⟨i, hig, rfl, hB, hn⟩ := hrel
    have B : Hid (Below w.heap.size w wr) := hB
    have HN : Hid ((P.take i).any nop = false) := hn
    clear hB hn
    by_cases hi : i < P.length
    · obtain ⟨b, o, rfl, h1⟩ := HS.out.of_below B.out i hi
      have il : (i : Int) < (P.length : Int) := by omega
      have HT : Hid _ := any_take nop hi
      have HO : Hid _ := any_of nop hi
      have HQ : Hid _ := nop_eq P[i]
      generalize P[i] = y at *
      by_cases j1 : y < 0
      · have e3 : Hid (cz = 4) := C4.out A1.out A2.out (HO.out (by rw [HQ.out]; simp [j1]))
        go_wp2_with fail
        go_ret
        exact ⟨by rw [e3.out]; rfl, B.out⟩
      by_cases j2 : (255 : Int) < y
      · have e3 : Hid (cz = 4) := C4.out A1.out A2.out (HO.out (by rw [HQ.out]; simp [j2]))
        go_wp2_with fail
        go_ret
        exact ⟨by rw [e3.out]; rfl, B.out⟩
      have HF : Hid (nop y = false) := by show _ = _; rw [HQ.out]; simp [j1, j2]
      go_wp2_with fail
      go_roundg (gk - 1)
      case measure => omega
      case rel => exact ⟨i + 1, by omega, by go_num, B.out, by rw [HT.out, HN.out, HF.out]; rfl⟩
    have il : ¬ (i : Int) < (P.length : Int) := by omega
    have A3 : Hid (P.any nop = false) := by have h := HN.out; rw [List.take_of_length_le (by omega)] at h; exact h
    clear HN C4 C3 C2
    obtain ⟨V, rfl⟩ : ∃ V, V = wr := ⟨_, rfl⟩
    obtain ⟨G1, rfl⟩ : ∃ G1, G1 = gk := ⟨_, rfl⟩
    obtain ⟨i1, rfl⟩ : ∃ i1, i1 = i := ⟨_, rfl⟩
    have HSV : Hid (IL V a P) := HS.out.of_below B.out
    go_wp2_with fail
    go_loopg [5, 6, 7, 29] P.length (fun gk v5 v6 v7 v29 wr => ∃ i : Nat, i + gk = P.length ∧ v29 = .int .i64 (i : Int) ∧ Below V.heap.size V wr ∧ twi P i = false)
    case atStart => exact ⟨0, by omega, rfl, Below.refl _ _, by simp [twi]⟩
    case round =>
      obtain ⟨i, hig2, rfl, hB2, hn⟩ := hrel
      have B2 : Hid (Below V.heap.size V wr) := hB2
      have HN : Hid (twi P i = false) := hn
      clear hB2 hn
      by_cases hi : i < P.length
      · obtain ⟨b, o, rfl, h1⟩ := HSV.out.of_below B2.out i hi
        have il2 : (i : Int) < (P.length : Int) := by omega
        have HT : Hid _ := twi_step P i
        have HO : Hid _ := twi_of hi
        have eg : Hid (P.getD i 0 = P[i]) := by show _ = _; simp [hi]
        generalize P[i] = y at *
        go_wp2_with fail
        clear h1
        obtain ⟨G3, rfl⟩ : ∃ G3, G3 = gk := ⟨_, rfl⟩
        obtain ⟨V2, rfl⟩ : ∃ V2, V2 = wr := ⟨_, rfl⟩
        go_loopg [7] i (fun gk v7 wr => ∃ j : Nat, j + gk = i ∧ v7 = .int .i64 (j : Int) ∧ Below V2.heap.size V2 wr ∧ (P.take j).any (fun x => P.getD i 0 == x) = false)
        case atStart => exact ⟨0, by omega, rfl, Below.refl _ _, by simp⟩
        case round =>
          obtain ⟨j, hig4, rfl, hB4, hn4⟩ := hrel
          have B4 : Hid (Below V2.heap.size V2 wr) := hB4
          have BV : Hid (Below V.heap.size V wr) := B2.out.trans (hB4.mono B2.out.size)
          have BW : Hid (Below w.heap.size w wr) := B.out.trans (BV.out.mono B.out.size)
          have HN4 : Hid ((P.take j).any (fun x => P.getD i 0 == x) = false) := hn4
          clear hB4 hn4
          by_cases hj : j < i
          · have jl : (j : Int) < (i : Int) := by omega
            have hj2 : j < P.length := by omega
            have jl2 : (j : Int) < (P.length : Int) := by omega
            obtain ⟨b2, o2, e2, h2⟩ := HSV.out.of_below BV.out j hj2
            simp only [Option.some.injEq, Addr.mk.injEq, and_true] at e2
            obtain ⟨rfl, rfl⟩ := e2
            have HT4 : Hid _ := any_take (fun x => P.getD i 0 == x) hj2
            have HO4 : Hid (P[j] = y → (P.take i).any (fun x => P.getD i 0 == x) = true) := fun h => by
              rw [List.any_eq_true]
              refine ⟨P[j], ?_, by rw [eg.out, h]; simp⟩
              rw [List.mem_iff_getElem]
              exact ⟨j, by rw [List.length_take]; omega, by simp⟩
            generalize P[j] = x at *
            by_cases hxy : x = y
            · have t1 : (x == y) = true := by simp [hxy]
              have e3 : Hid (cz = 10) := CA.out A1.out A2.out A3.out (HO.out (HO4.out hxy))
              clear hxy
              go_wp2_with fail
              go_ret
              exact ⟨by rw [e3.out]; rfl, BW.out⟩
            have t1 : (x == y) = false := beq_eq_false_iff_ne.2 hxy
            have HX : Hid ((P.getD i 0 == x) = false) := by show _ = _; rw [eg.out]; exact beq_eq_false_iff_ne.2 (fun h => hxy h.symm)
            clear hxy
            go_wp2_with fail
            go_roundg (gk - 1)
            case measure => omega
            case rel => exact ⟨j + 1, by omega, by go_num, B4.out, by rw [HT4.out, HN4.out, HX.out]; rfl⟩
          have jl : ¬ (j : Int) < (i : Int) := by omega
          have HZ : Hid ((P.take i).any (fun x => P.getD i 0 == x) = false) := by have h := HN4.out; rw [show j = i by omega] at h; exact h
          go_wp2_with fail
          go_roundg (G3 - 1)
          case measure => omega
          case rel => exact ⟨i + 1, by omega, by go_num, BV.out, by rw [HT.out, HN.out, HZ.out]; rfl⟩
      have il2 : ¬ (i : Int) < (P.length : Int) := by omega
      have e0 : Hid (cz = 0) := C0.out A1.out A2.out A3.out (by have h := HN.out; rw [show i = P.length by omega] at h; exact h)
      go_wp2_with fail
      go_ret
      exact ⟨by rw [e0.out]; rfl, B.out.trans (B2.out.mono B.out.size)⟩
end Go.Proofs.YtlimogamjgehjaaGreat
namespace Go.Proofs.YtlimogamjgehjaaGreat
open Go.RowKit Go.Deep Go.PlainAid

section
variable {z : Int} {G : Array Value} {S Wd M low one sq Ri Wd2 M2 low2 one2 sq2 Ri2 : Nat}
theorem nu_sub (hs : M ≤ 256 ^ S) (hM : 641 ≤ M) {a b : Nat} (ha : a ≤ 255) (hb : b ≤ 255) : numS (nu S M ((a : Int) - (b : Int))) = (a + M - b) % M := by
  unfold nu
  rw [numS_TX (Nat.lt_of_lt_of_le (numF_lt (by omega)) hs)]
  unfold numF
  split
  · have e : (-((a : Int) - (b : Int))).toNat = b - a := by omega
    rw [e, Nat.mod_eq_of_lt (by omega), subF_mod (by omega) (by omega), show 0 + M - (b - a) = a + M - b by omega]
  · have e : ((a : Int) - (b : Int)).toNat = a - b := by omega
    rw [e, show a + M - b = (a - b) + M by omega, Nat.add_mod_right]
theorem nu_one (hs : M ≤ 256 ^ S) (hM : 641 ≤ M) : numS (nu S M 1) = 1 := by
  have h := nu_sub hs hM (a := 1) (b := 0) (by omega) (by omega)
  have e : ((1 : Nat) : Int) - ((0 : Nat) : Int) = 1 := by decide
  rw [e, Nat.sub_zero, Nat.add_mod_right, Nat.mod_eq_of_lt (by omega)] at h
  exact h
theorem nu_zero (hs : M ≤ 256 ^ S) (hM : 641 ≤ M) : numS (nu S M 0) = 0 := by
  have h := nu_sub hs hM (a := 0) (b := 0) (by omega) (by omega)
  have e : ((0 : Nat) : Int) - ((0 : Nat) : Int) = 0 := by decide
  rw [e, Nat.sub_zero, Nat.zero_add, Nat.mod_self] at h
  exact h
theorem tm_num (hs : M ≤ 256 ^ S) (hM : 641 ≤ M) (a b : ByteArray) : numS (tm S M a b) = numS a * numS b % M := numS_TX (Nat.lt_of_lt_of_le (Nat.mod_lt _ (by omega)) hs)
theorem pl_num (hs : M ≤ 256 ^ S) (hM : 641 ≤ M) (a b : ByteArray) : numS (pl S M a b) = (numS a + numS b) % M := numS_TX (Nat.lt_of_lt_of_le (Nat.mod_lt _ (by omega)) hs)
theorem iv_num (hs : M ≤ 256 ^ S) (hM : 641 ≤ M) (a : ByteArray) : numS (iv S M a) = numS a ^ (M - 2) % M := numS_TX (Nat.lt_of_lt_of_le (Nat.mod_lt _ (by omega)) hs)
theorem wt_num (hs : M ≤ 256 ^ S) (hM : 641 ≤ M) (P : List Int) (here x : Int) : numS (wt S M P here x) = numS (fo (nu S M) (tm S M) here x P) * (numS (fo (nu S M) (tm S M) here here P) ^ (M - 2) % M) % M := by
  unfold wt
  rw [tm_num hs hM, iv_num hs hM]
theorem wt_sc (hs : M ≤ 256 ^ S) (hM : 641 ≤ M) (P : List Int) (here x : Int) : isSc S M (wt S M P here x) = true := tm_sc hs (by omega) _ _
theorem pw_ne {P : List Int} (h : P.Pairwise (· ≠ ·)) {i j : Nat} (hi : i < P.length) (hj : j < P.length) (hij : j ≠ i) : P[j] ≠ P[i] := by
  rw [List.pairwise_iff_getElem] at h
  rcases Nat.lt_or_gt_of_ne hij with q | q
  · exact h j i hj hi q
  · exact fun e => h i j hi hj q e.symm
set_option maxHeartbeats 4000000 in
theorem weight16 (k : KD z G S Wd M low one sq Ri Wd2 M2 low2 one2 sq2 Ri2) (hM : 641 ≤ M) {P : List Int} (h16 : P.length ≤ 16) (hP : ∀ y ∈ P, 0 ≤ y ∧ y ≤ 255) (hpw : P.Pairwise (· ≠ ·)) {w : World} {a : Option Addr} {c : Nat} {qa pa : Option Addr} {ql qc pl pc : Nat} (ia : IL w a P) {i : Nat} (hi : i < P.length) {x : Nat} (hx : x ≤ 255) (n1 : NumV w 65536 M (.slice qa ql qc)) (n2 : NumV w 65536 M2 (.slice pa pl pc)) :
    Calls Tryz.prog 16 #[.agg #[.int .i64 (S : Int), .slice qa ql qc, .slice pa pl pc], .slice a P.length c, .int .i64 (i : Int), .int .i64 (x : Int)] w fun e w' => (∃ v, e = .returned v ∧ NumV w' 65536 (numS (wt S M P P[i] (x : Int))) v) ∧ Below w.heap.size w w' := by
  generalize hW : w.alloc (.cells #[.int .i64 (S : Int), .slice qa ql qc, .slice pa pl pc] 41) = W
  have J : Hid (Below w.heap.size w W) := by rw [← hW]; exact (Below.refl _ w).alloc (Nat.le_refl _) _
  have I0 : Hid (IHolds W w.heap.size 41 [.int .i64 (S : Int), .slice qa ql qc, .slice pa pl pc]) := by rw [← hW]; exact IHolds.new' w 41 [.int .i64 (S : Int), .slice qa ql qc, .slice pa pl pc] rfl
  have N1 : Hid (NumV W 65536 M (.slice qa ql qc)) := n1.of_below J.out
  have N2 : Hid (NumV W 65536 M2 (.slice pa pl pc)) := n2.of_below J.out
  have HS : Hid (IL W a P) := ia.of_below J.out
  have HW : Hid (numS (wt S M P P[i] (x : Int)) = numS (fo (nu S M) (tm S M) P[i] (x : Int) P) * (numS (fo (nu S M) (tm S M) P[i] P[i] P) ^ (M - 2) % M) % M) := wt_num k.sz hM P P[i] (x : Int)
  have HP : Hid (∀ y ∈ P, 0 ≤ y ∧ y ≤ 255) := hP
  have hh := hP P[i] (List.getElem_mem hi)
  obtain ⟨b, o, rfl, hci⟩ := HS.out i hi
  have HY : Hid (∀ j (hj : j < P.length), j ≠ i → P[j] ≠ P[i]) := fun j hj => pw_ne hpw hi hj
  have HN : Hid (∀ j (hj : j < P.length), j = i → P[j] = P[i]) := fun j hj e => by subst e; rfl
  obtain ⟨here, hhere⟩ : ∃ here : Int, here = P[i] := ⟨_, rfl⟩
  rw [← hhere] at hh hci HW HY HN ⊢
  clear hhere hP hpw ia n1 n2
  obtain ⟨hn, rfl⟩ : ∃ hn : Nat, here = (hn : Int) := ⟨here.toNat, by omega⟩
  have hn9 : hn ≤ 255 := by omega
  clear hh
  obtain ⟨f1, hf1⟩ : ∃ f1 : List Int → ByteArray, f1 = fun Q => fo (nu S M) (tm S M) (hn : Int) (x : Int) Q := ⟨_, rfl⟩
  obtain ⟨f2, hf2⟩ : ∃ f2 : List Int → ByteArray, f2 = fun Q => fo (nu S M) (tm S M) (hn : Int) (hn : Int) Q := ⟨_, rfl⟩
  have W1 : Hid (numS (wt S M P (hn : Int) (x : Int)) = numS (f1 P) * (numS (f2 P) ^ (M - 2) % M) % M) := by rw [hf1, hf2]; exact HW.out
  have L1 : Hid (∀ Q, numS (f1 Q) < M) := fun Q => by rw [hf1]; exact isSc_lt (cg_fo k.sz k.m2 (hn : Int) (x : Int) Q).1
  have L2 : Hid (∀ Q, numS (f2 Q) < M) := fun Q => by rw [hf2]; exact isSc_lt (cg_fo k.sz k.m2 (hn : Int) (hn : Int) Q).1
  have Z1 : Hid (numS (f1 (P.take 0)) = 1) := by rw [hf1]; exact nu_one k.sz hM
  have Z2 : Hid (numS (f2 (P.take 0)) = 1) := by rw [hf2]; exact nu_one k.sz hM
  have Y1 : Hid (∀ j (hj : j < P.length) (y : Nat), P[j] = (y : Int) → y ≤ 255 → j ≠ i → numS (f1 (P.take (j + 1))) = numS (f1 (P.take j)) * ((y + M - x) % M) % M) := fun j hj y e hy hne => by
    rw [hf1]
    simp only []
    rw [fo_yes hj (HY.out j hj hne), tm_num k.sz hM, e, nu_sub k.sz hM hy hx]
  have Y2 : Hid (∀ j (hj : j < P.length) (y : Nat), P[j] = (y : Int) → y ≤ 255 → j ≠ i → numS (f2 (P.take (j + 1))) = numS (f2 (P.take j)) * ((y + M - hn) % M) % M) := fun j hj y e hy hne => by
    rw [hf2]
    simp only []
    rw [fo_yes hj (HY.out j hj hne), tm_num k.sz hM, e, nu_sub k.sz hM hy hn9]
  have X1 : Hid (∀ j (hj : j < P.length), j = i → f1 (P.take (j + 1)) = f1 (P.take j)) := fun j hj e => by rw [hf1]; exact fo_no hj (HN.out j hj e)
  have X2 : Hid (∀ j (hj : j < P.length), j = i → f2 (P.take (j + 1)) = f2 (P.take j)) := fun j hj e => by rw [hf2]; exact fo_no hj (HN.out j hj e)
  clear hf1 hf2 HW HY HN
  have hM2 := k.m2
  have OF : Hid (∀ n : Nat, n ≤ 255 → ∀ V, Calls Tryz.prog 24 #[.int .i64 (n : Int)] V fun e w' => (∃ v, e = .returned v ∧ NumV w' 65536 n v) ∧ Below V.heap.size V w') := fun n hn V => of_any V n (by omega)
  have O1 : Hid (∀ V, Calls Tryz.prog 24 #[.int .i64 1] V fun e w' => (∃ v, e = .returned v ∧ NumV w' 65536 1 v) ∧ Below V.heap.size V w') := fun V => OF.out 1 (by omega) V
  have NB : Hid (∀ V, Below W.heap.size W V → NumV V 65536 M (.slice qa ql qc) ∧ NumV V 65536 M2 (.slice pa pl pc)) := fun V hV => ⟨N1.out.of_below hV, N2.out.of_below hV⟩
  have KP : Hid (∀ V, Below W.heap.size W V → (Below W.heap.size W V ∧ V.cell? ⟨w.heap.size, 0, none⟩ = some (.int .i64 (S : Int)) ∧ V.cell? ⟨w.heap.size, 1, none⟩ = some (.slice qa ql qc) ∧ V.cell? ⟨w.heap.size, 2, none⟩ = some (.slice pa pl pc) ∧ V.cell? ⟨b, o + i, none⟩ = some (.int .i64 (hn : Int)))) := fun V hV => ⟨hV, cell_keep (I0.out.cell 0 (by simp)) hV, cell_keep (I0.out.cell 1 (by simp)) hV, cell_keep (I0.out.cell 2 (by simp)) hV, cell_keep hci hV⟩
  have sB : Hid (∀ V V', Below V.heap.size V V' → Below W.heap.size W V → Below W.heap.size W V') := fun V V' h h' => h'.trans (h.mono h'.size)
  have il0 : (i : Int) < (P.length : Int) := by omega
  clear hci
  go_enter Tryz.func16, Tryz.ntmps16
  go_wp2_with (first
    | (go_at_call 24; have zz := O1.out; refine (zz _).mono ?_; clear zz; rintro e w6 ⟨⟨r6, rfl, n6⟩, hB6⟩; have B6 : Hid (Below W.heap.size W w6) := hB6; have M6 : Hid (NumV w6 65536 1 r6) := n6; clear n6 hB6; have O2 : Hid (∀ V, Calls Tryz.prog 24 #[.int .i64 1] V fun e w' => (∃ v, e = .returned v ∧ NumV w' 65536 1 v) ∧ Below V.heap.size V w') := O1.out; clear O1)
    | (go_at_call 24; have zz := O2.out; refine (zz _).mono ?_; clear zz; rintro e w7 ⟨⟨r7, rfl, n7⟩, hB7⟩; have B7 : Hid (Below W.heap.size W w7) := sB.out _ _ hB7 B6.out; have M7 : Hid (NumV w7 65536 1 r7) := n7; replace M6 : Hid (NumV w7 65536 1 r6) := M6.out.of_below hB7; clear n7 hB7 O2)
    | fail)
  clear hW
  go_loopg [9, 10, 11, 12, 17] P.length (fun gk v9 v10 v11 v12 v17 wr => ∃ (j : Nat) (u d : Value), j + gk = P.length ∧ u = v9 ∧ d = v10 ∧ v17 = .int .i64 (j : Int) ∧ Below W.heap.size W wr ∧ NumV wr 65536 (numS (f1 (P.take j))) u ∧ NumV wr 65536 (numS (f2 (P.take j))) d)
  case atStart => exact ⟨0, _, _, by omega, rfl, rfl, rfl, B7.out, by rw [Z1.out]; exact M6.out, by rw [Z2.out]; exact M7.out⟩
  case round =>
    obtain ⟨j, u, d, hig, rfl, rfl, rfl, hB, hu, hd⟩ := hrel
    have B : Hid (Below W.heap.size W wr) := hB
    obtain ⟨ua, ul, uc, rfl⟩ := sN (show Hid (NumV wr 65536 _ u) from hu)
    obtain ⟨da, dl, dc, rfl⟩ := sN (show Hid (NumV wr 65536 _ d) from hd)
    have NU : Hid (NumV wr 65536 (numS (f1 (P.take j))) (.slice ua ul uc)) := hu
    have ND : Hid (NumV wr 65536 (numS (f2 (P.take j))) (.slice da dl dc)) := hd
    clear hB hu hd
    by_cases hj : j < P.length
    · have jl : (j : Int) < (P.length : Int) := by omega
      obtain ⟨b2, o2, e2, hcj⟩ := HS.out.of_below B.out j hj
      simp only [Option.some.injEq, Addr.mk.injEq, and_true] at e2
      obtain ⟨rfl, rfl⟩ := e2
      have hy := HP.out P[j] (List.getElem_mem hj)
      by_cases hji : j = i
      · have t1 : ((j : Int) != (i : Int)) = false := by simp [hji]
        have e1 : Hid (f1 (P.take (j + 1)) = f1 (P.take j)) := X1.out j hj hji
        have e2 : Hid (f2 (P.take (j + 1)) = f2 (P.take j)) := X2.out j hj hji
        clear hji
        generalize P[j] = y at *
        go_wp2_with fail
        go_roundg (gk - 1)
        case measure => omega
        case rel => exact ⟨j + 1, _, _, by omega, rfl, rfl, by go_num, B.out, by rw [e1.out]; exact NU.out, by rw [e2.out]; exact ND.out⟩
      have t1 : ((j : Int) != (i : Int)) = true := bne_iff_ne.2 (by omega)
      have G1 := Y1.out j hj
      have G2 := Y2.out j hj
      generalize P[j] = y at *
      obtain ⟨yn, rfl⟩ : ∃ yn : Nat, y = (yn : Int) := ⟨y.toNat, by omega⟩
      have yn9 : yn ≤ 255 := by omega
      have e1 : Hid (numS (f1 (P.take (j + 1))) = numS (f1 (P.take j)) * ((yn + M - x) % M) % M) := G1 yn rfl yn9 hji
      have e2 : Hid (numS (f2 (P.take (j + 1))) = numS (f2 (P.take j)) * ((yn + M - hn) % M) % M) := G2 yn rfl yn9 hji
      have l1 : Hid (numS (f1 (P.take j)) < M) := L1.out _
      have l2 : Hid (numS (f2 (P.take j)) < M) := L2.out _
      clear G1 G2 hji hy
      generalize numS (f1 (P.take j)) = A1 at *
      generalize numS (f2 (P.take j)) = A2 at *
      have RY : Hid (∀ V, Calls Tryz.prog 24 #[.int .i64 (yn : Int)] V fun e w' => (∃ v, e = .returned v ∧ NumV w' 65536 yn v) ∧ Below V.heap.size V w') := OF.out yn yn9
      have RX : Hid (∀ V, Calls Tryz.prog 24 #[.int .i64 (x : Int)] V fun e w' => (∃ v, e = .returned v ∧ NumV w' 65536 x v) ∧ Below V.heap.size V w') := OF.out x hx
      have RS : Hid (∀ V va vb, Below W.heap.size W V → NumV V 65536 yn va → NumV V 65536 x vb → Calls Tryz.prog 37 #[.agg #[.int .i64 (S : Int), .slice qa ql qc, .slice pa pl pc], va, vb] V fun e w' => (∃ v, e = .returned v ∧ NumV w' 65536 ((yn + M - x) % M) v) ∧ Below V.heap.size V w') := fun V va vb hV ha hb => subV (NB.out V hV).1 (NB.out V hV).2 ha hb (by omega) (by omega) k.l5
      have RM : Hid (∀ V vb, Below W.heap.size W V → NumV V 65536 A1 (.slice ua ul uc) → NumV V 65536 ((yn + M - x) % M) vb → Calls Tryz.prog 36 #[.agg #[.int .i64 (S : Int), .slice qa ql qc, .slice pa pl pc], .slice ua ul uc, vb] V fun e w' => (∃ v, e = .returned v ∧ NumV w' 65536 (A1 * ((yn + M - x) % M) % M) v) ∧ Below V.heap.size V w') := fun V vb hV ha hb => mulV k (NB.out V hV).1 (NB.out V hV).2 ha hb l1.out (Nat.mod_lt _ (by omega))
      have RY2 : Hid (∀ V, Calls Tryz.prog 24 #[.int .i64 (yn : Int)] V fun e w' => (∃ v, e = .returned v ∧ NumV w' 65536 yn v) ∧ Below V.heap.size V w') := OF.out yn yn9
      have RH : Hid (∀ V, Calls Tryz.prog 24 #[.int .i64 (hn : Int)] V fun e w' => (∃ v, e = .returned v ∧ NumV w' 65536 hn v) ∧ Below V.heap.size V w') := OF.out hn hn9
      have RS2 : Hid (∀ V va vb, Below W.heap.size W V → NumV V 65536 yn va → NumV V 65536 hn vb → Calls Tryz.prog 37 #[.agg #[.int .i64 (S : Int), .slice qa ql qc, .slice pa pl pc], va, vb] V fun e w' => (∃ v, e = .returned v ∧ NumV w' 65536 ((yn + M - hn) % M) v) ∧ Below V.heap.size V w') := fun V va vb hV ha hb => subV (NB.out V hV).1 (NB.out V hV).2 ha hb (by omega) (by omega) k.l5
      have RM2 : Hid (∀ V vb, Below W.heap.size W V → NumV V 65536 A2 (.slice da dl dc) → NumV V 65536 ((yn + M - hn) % M) vb → Calls Tryz.prog 36 #[.agg #[.int .i64 (S : Int), .slice qa ql qc, .slice pa pl pc], .slice da dl dc, vb] V fun e w' => (∃ v, e = .returned v ∧ NumV w' 65536 (A2 * ((yn + M - hn) % M) % M) v) ∧ Below V.heap.size V w') := fun V vb hV ha hb => mulV k (NB.out V hV).1 (NB.out V hV).2 ha hb l2.out (Nat.mod_lt _ (by omega))
      go_wp2_with fail
      clear hcj
      go_region_held3 (fun V => Below W.heap.size W V ∧ V.cell? ⟨w.heap.size, 0, none⟩ = some (.int .i64 (S : Int)) ∧ V.cell? ⟨w.heap.size, 1, none⟩ = some (.slice qa ql qc) ∧ V.cell? ⟨w.heap.size, 2, none⟩ = some (.slice pa pl pc) ∧ V.cell? ⟨b, o + i, none⟩ = some (.int .i64 (hn : Int)))
        (first | exact KP.out _ B.out.drew | assumption | exact KP.out _ B11.out | exact KP.out _ B10.out | exact KP.out _ B9.out | exact KP.out _ B8.out | fail)
        (first
          | (go_at_call 24; have zz := RY.out; clear zz; refine (RY.out _).mono ?_; rintro e w8 ⟨⟨r8, rfl, n8⟩, hB8⟩; have B8 : Hid (Below W.heap.size W w8) := sB.out _ _ hB8 B.out.drew; have M8 : Hid (NumV w8 65536 yn r8) := n8; replace NU : Hid (NumV w8 65536 A1 (.slice ua ul uc)) := (NU.out.of_below (dB _)).of_below hB8; replace ND : Hid (NumV w8 65536 A2 (.slice da dl dc)) := (ND.out.of_below (dB _)).of_below hB8; clear n8 RY)
          | (go_at_call 24; have zz := RX.out; clear zz; refine (RX.out _).mono ?_; rintro e w9 ⟨⟨r9, rfl, n9⟩, hB9⟩; have B9 : Hid (Below W.heap.size W w9) := sB.out _ _ hB9 B8.out; have M9 : Hid (NumV w9 65536 x r9) := n9; replace M8 : Hid (NumV w9 65536 yn r8) := M8.out.of_below hB9; replace NU : Hid (NumV w9 65536 A1 (.slice ua ul uc)) := NU.out.of_below hB9; replace ND : Hid (NumV w9 65536 A2 (.slice da dl dc)) := ND.out.of_below hB9; clear n9 RX)
          | (go_at_call 37; refine (RS.out _ _ _ B9.out M8.out M9.out).mono ?_; rintro e w10 ⟨⟨r10, rfl, n10⟩, hB10⟩; have B10 : Hid (Below W.heap.size W w10) := sB.out _ _ hB10 B9.out; have M10 : Hid (NumV w10 65536 ((yn + M - x) % M) r10) := n10; replace NU : Hid (NumV w10 65536 A1 (.slice ua ul uc)) := NU.out.of_below hB10; replace ND : Hid (NumV w10 65536 A2 (.slice da dl dc)) := ND.out.of_below hB10; clear n10 RS)
          | (go_at_call 36; refine (RM.out _ _ B10.out NU.out M10.out).mono ?_; rintro e w11 ⟨⟨r11, rfl, n11⟩, hB11⟩; have B11 : Hid (Below W.heap.size W w11) := sB.out _ _ hB11 B10.out; have M11 : Hid (NumV w11 65536 (A1 * ((yn + M - x) % M) % M) r11) := n11; replace ND : Hid (NumV w11 65536 A2 (.slice da dl dc)) := ND.out.of_below hB11; clear n11 RM)
          | fail)
      clear M8 M9 M10 NU
      go_wp2_with fail
      go_region_held3 (fun V => Below W.heap.size W V ∧ V.cell? ⟨w.heap.size, 0, none⟩ = some (.int .i64 (S : Int)) ∧ V.cell? ⟨w.heap.size, 1, none⟩ = some (.slice qa ql qc) ∧ V.cell? ⟨w.heap.size, 2, none⟩ = some (.slice pa pl pc) ∧ V.cell? ⟨b, o + i, none⟩ = some (.int .i64 (hn : Int)))
        (first | exact KP.out _ B11.out.drew | assumption | exact KP.out _ B15.out | exact KP.out _ B14.out | exact KP.out _ B13.out | exact KP.out _ B12.out | fail)
        (first
          | (go_at_call 24; have zz := RY2.out; clear zz; refine (RY2.out _).mono ?_; rintro e w12 ⟨⟨r12, rfl, n12⟩, hB12⟩; have B12 : Hid (Below W.heap.size W w12) := sB.out _ _ hB12 B11.out.drew; have M12 : Hid (NumV w12 65536 yn r12) := n12; replace M11 : Hid (NumV w12 65536 (A1 * ((yn + M - x) % M) % M) r11) := (M11.out.of_below (dB _)).of_below hB12; replace ND : Hid (NumV w12 65536 A2 (.slice da dl dc)) := (ND.out.of_below (dB _)).of_below hB12; clear n12 RY2)
          | (go_at_call 24; have zz := RH.out; clear zz; refine (RH.out _).mono ?_; rintro e w13 ⟨⟨r13, rfl, n13⟩, hB13⟩; have B13 : Hid (Below W.heap.size W w13) := sB.out _ _ hB13 B12.out; have M13 : Hid (NumV w13 65536 hn r13) := n13; replace M12 : Hid (NumV w13 65536 yn r12) := M12.out.of_below hB13; replace M11 : Hid (NumV w13 65536 (A1 * ((yn + M - x) % M) % M) r11) := M11.out.of_below hB13; replace ND : Hid (NumV w13 65536 A2 (.slice da dl dc)) := ND.out.of_below hB13; clear n13 RH)
          | (go_at_call 37; refine (RS2.out _ _ _ B13.out M12.out M13.out).mono ?_; rintro e w14 ⟨⟨r14, rfl, n14⟩, hB14⟩; have B14 : Hid (Below W.heap.size W w14) := sB.out _ _ hB14 B13.out; have M14 : Hid (NumV w14 65536 ((yn + M - hn) % M) r14) := n14; replace M11 : Hid (NumV w14 65536 (A1 * ((yn + M - x) % M) % M) r11) := M11.out.of_below hB14; replace ND : Hid (NumV w14 65536 A2 (.slice da dl dc)) := ND.out.of_below hB14; clear n14 RS2)
          | (go_at_call 36; refine (RM2.out _ _ B14.out ND.out M14.out).mono ?_; rintro e w15 ⟨⟨r15, rfl, n15⟩, hB15⟩; have B15 : Hid (Below W.heap.size W w15) := sB.out _ _ hB15 B14.out; have M15 : Hid (NumV w15 65536 (A2 * ((yn + M - hn) % M) % M) r15) := n15; replace M11 : Hid (NumV w15 65536 (A1 * ((yn + M - x) % M) % M) r11) := M11.out.of_below hB15; clear n15 RM2)
          | fail)
      go_wp2_with fail
      go_roundg (gk - 1)
      case measure => omega
      case rel => exact ⟨j + 1, _, _, by omega, rfl, rfl, by go_num, B15.out, by rw [e1.out]; exact M11.out, by rw [e2.out]; exact M15.out⟩
    have jl : ¬ (j : Int) < (P.length : Int) := by omega
    have ej : P.take j = P := List.take_of_length_le (by omega)
    rw [ej] at NU ND
    have l1 : Hid (numS (f1 P) < M) := L1.out _
    have l2 : Hid (numS (f2 P) < M) := L2.out _
    clear ej L1 L2 Y1 Y2 X1 X2 Z1 Z2
    generalize numS (f1 P) = A1 at *
    generalize numS (f2 P) = A2 at *
    have RI : Hid (∀ V, Below W.heap.size W V → NumV V 65536 A2 (.slice da dl dc) → Calls Tryz.prog 38 #[.agg #[.int .i64 (S : Int), .slice qa ql qc, .slice pa pl pc], .slice da dl dc] V fun e w' => (∃ v, e = .returned v ∧ NumV w' 65536 (A2 ^ (M - 2) % M) v) ∧ Below V.heap.size V w') := fun V hV ha => invV k (NB.out V hV).1 (NB.out V hV).2 ha l2.out
    have RM : Hid (∀ V vb, Below W.heap.size W V → NumV V 65536 A1 (.slice ua ul uc) → NumV V 65536 (A2 ^ (M - 2) % M) vb → Calls Tryz.prog 36 #[.agg #[.int .i64 (S : Int), .slice qa ql qc, .slice pa pl pc], .slice ua ul uc, vb] V fun e w' => (∃ v, e = .returned v ∧ NumV w' 65536 (A1 * (A2 ^ (M - 2) % M) % M) v) ∧ Below V.heap.size V w') := fun V vb hV ha hb => mulV k (NB.out V hV).1 (NB.out V hV).2 ha hb l1.out (Nat.mod_lt _ (by omega))
    go_wp2_with fail
    go_region_held3 (fun V => Below W.heap.size W V ∧ V.cell? ⟨w.heap.size, 0, none⟩ = some (.int .i64 (S : Int)) ∧ V.cell? ⟨w.heap.size, 1, none⟩ = some (.slice qa ql qc) ∧ V.cell? ⟨w.heap.size, 2, none⟩ = some (.slice pa pl pc) ∧ V.cell? ⟨b, o + i, none⟩ = some (.int .i64 (hn : Int)))
      (first | exact KP.out _ B.out.drew | assumption | exact KP.out _ B9.out | exact KP.out _ B8.out | fail)
      (first
        | (go_at_call 38; refine (RI.out _ B.out.drew (ND.out.of_below (dB _))).mono ?_; rintro e w8 ⟨⟨r8, rfl, n8⟩, hB8⟩; have B8 : Hid (Below W.heap.size W w8) := sB.out _ _ hB8 B.out.drew; have M8 : Hid (NumV w8 65536 (A2 ^ (M - 2) % M) r8) := n8; replace NU : Hid (NumV w8 65536 A1 (.slice ua ul uc)) := (NU.out.of_below (dB _)).of_below hB8; clear n8 RI)
        | (go_at_call 36; refine (RM.out _ _ B8.out NU.out M8.out).mono ?_; rintro e w9 ⟨⟨r9, rfl, n9⟩, hB9⟩; have B9 : Hid (Below W.heap.size W w9) := sB.out _ _ hB9 B8.out; have M9 : Hid (NumV w9 65536 (A1 * (A2 ^ (M - 2) % M) % M) r9) := n9; clear n9 RM)
        | fail)
    go_wp2_with fail
    go_ret
    exact ⟨⟨_, rfl, by rw [W1.out]; exact M9.out⟩, J.out.trans (B9.out.mono J.out.size)⟩
end
end Go.Proofs.YtlimogamjgehjaaGreat
namespace Go.Proofs.YtlimogamjgehjaaGreat
open Go.RowKit Go.Deep Go.PlainAid

theorem all_take {α : Type} (p : α → Bool) {l : List α} {i : Nat} (h : i < l.length) : (l.take (i + 1)).all p = ((l.take i).all p && p l[i]) := by
  rw [List.take_succ_eq_append_getElem h, List.all_append, List.all_cons, List.all_nil, Bool.and_true]
theorem all_not {α : Type} (p : α → Bool) {l : List α} {i : Nat} (h : i < l.length) (hp : p l[i] = false) : l.all p = false := by
  rw [List.all_eq_false]; exact ⟨l[i], List.getElem_mem h, by simp [hp]⟩
set_option maxHeartbeats 1000000 in
theorem wrongScalars23 {w : World} {a qa pa : Option Addr} {l : List ByteArray} {c ql qc pl pc : Nat} {S : Int} (p : ByteArray → Bool) (hl : l.length ≤ 8796093022207) (hs : SL w a l)
    (CS : ∀ s W, Below w.heap.size w W → Calls Tryz.prog 44 #[.agg #[.int .i64 S, .slice qa ql qc, .slice pa pl pc], .string s] W fun e w' => e = .returned (.bool (p s)) ∧ Below W.heap.size W w') :
    Calls Tryz.prog 20 #[.agg #[.int .i64 S, .slice qa ql qc, .slice pa pl pc], .int .i64 (l.length : Int), .slice a l.length c] w fun e w' => e = .returned (.int .i64 (if l.all p = true then 0 else 6)) ∧ Below w.heap.size w w' := by
  generalize hW : w.alloc (.cells #[.int .i64 S, .slice qa ql qc, .slice pa pl pc] 41) = W
  have J : Hid (Below w.heap.size w W) := by rw [← hW]; exact (Below.refl _ w).alloc (Nat.le_refl _) _
  have I0 : Hid (IHolds W w.heap.size 41 [.int .i64 S, .slice qa ql qc, .slice pa pl pc]) := by rw [← hW]; exact IHolds.new' w 41 [.int .i64 S, .slice qa ql qc, .slice pa pl pc] rfl
  have HS : Hid (SL W a l) := hs.of_below J.out
  obtain ⟨cz, hcz⟩ : ∃ cz : Int, cz = if l.all p = true then 0 else 6 := ⟨_, rfl⟩
  rw [← hcz]
  have HC0 : Hid (l.all p = true → cz = 0) := fun h => by rw [hcz, if_pos h]
  have HC6 : Hid (l.all p = false → cz = 6) := fun h => by rw [hcz, h]; rfl
  clear hs hcz
  go_enter Tryz.func20, Tryz.ntmps20
  go_wp2_with fail
  clear hW
  go_loopg [8, 15] l.length (fun gk v8 v15 wr => ∃ i : Nat, i + gk = l.length ∧ v15 = .int .i64 (i : Int) ∧ Below W.heap.size W wr ∧ (l.take i).all p = true)
  case atStart => exact ⟨0, by omega, rfl, Below.refl _ _, by simp⟩
  case round =>
    obtain ⟨i, hig, rfl, hB, hn⟩ := hrel
    have B : Hid (Below W.heap.size W wr) := hB
    have HN : Hid ((l.take i).all p = true) := hn
    clear hB hn
    have q0 : wr.cell? ⟨w.heap.size, 0, none⟩ = some (.int .i64 S) := cell_keep (I0.out.cell 0 (by simp)) B.out
    have q1 : wr.cell? ⟨w.heap.size, 1, none⟩ = some (.slice qa ql qc) := cell_keep (I0.out.cell 1 (by simp)) B.out
    have q2 : wr.cell? ⟨w.heap.size, 2, none⟩ = some (.slice pa pl pc) := cell_keep (I0.out.cell 2 (by simp)) B.out
    by_cases hi : i < l.length
    · obtain ⟨b, o, rfl, hc⟩ := HS.out.of_below B.out i hi
      have il : (i : Int) < (l.length : Int) := by omega
      have hcall := CS l[i] wr (J.out.trans (B.out.mono J.out.size))
      have HT : Hid _ := all_take p hi
      have HO : Hid _ := all_not p hi
      generalize l[i] = s at *
      cases hp : p s with
      | true =>
        rw [hp] at hcall
        go_wp2_with (go_at_call 44; refine hcall.mono ?_; rintro e w3 ⟨rfl, hB3⟩)
        go_roundg (gk - 1)
        case measure => omega
        case rel => exact ⟨i + 1, by omega, by go_num, B.out.trans (hB3.mono B.out.size), by rw [HT.out, HN.out, hp]; rfl⟩
      | false =>
        rw [hp] at hcall
        have HF : Hid (l.all p = false) := HO.out hp
        go_wp2_with (go_at_call 44; refine hcall.mono ?_; rintro e w3 ⟨rfl, hB3⟩)
        go_ret
        exact ⟨by rw [HC6.out HF.out]; rfl, J.out.trans ((B.out.trans (hB3.mono B.out.size)).mono J.out.size)⟩
    · have il : ¬ (i : Int) < (l.length : Int) := by omega
      have HF : Hid (l.all p = true) := by have := HN.out; rw [List.take_of_length_le (by omega)] at this; exact this
      go_wp2_with fail
      go_ret
      exact ⟨by rw [HC0.out HF.out]; rfl, J.out.trans (B.out.mono J.out.size)⟩
set_option maxHeartbeats 1000000 in
theorem wrongScalars_len {w : World} {a qa pa : Option Addr} {n m c ql qc pl pc : Nat} {S : Int} (h : ((m : Int) != (n : Int)) = true) :
    Calls Tryz.prog 20 #[.agg #[.int .i64 S, .slice qa ql qc, .slice pa pl pc], .int .i64 (n : Int), .slice a m c] w fun e w' => e = .returned (.int .i64 2) ∧ Below w.heap.size w w' := by
  have J : Hid (Below w.heap.size w (w.alloc (.cells #[.int .i64 S, .slice qa ql qc, .slice pa pl pc] 41))) := (Below.refl _ w).alloc (Nat.le_refl _) _
  go_enter Tryz.func20, Tryz.ntmps20
  go_wp2_with fail
  go_ret
  exact ⟨rfl, J.out⟩
theorem one_news (w : World) (T : ByteArray) : ∀ jj u, [Value.string T][jj]? = some u → (w.alloc (.cells #[.string T] 9)).cell? ((⟨w.heap.size, 0, none⟩ : Addr).add jj) = some u := fun jj u hu => by
  match jj, hu with
  | 0, hu => simp at hu; subst hu; simp [Addr.add]
theorem own_sl {w : World} {base : Nat} {v : Value} {n : Nat} {qs : List ByteArray} (hn : qs.length = n) (h : w.ownsRow base 9 1 v n (qs.map Value.string)) : ∃ a' c', v = .slice a' n c' ∧ SL w a' qs := by
  obtain ⟨hl, ⟨rfl, h0⟩ | ⟨g, cap, cur, rfl, h1, hg, h2, h3, h4, h5⟩⟩ := h
  · refine ⟨none, 0, by rw [h0], fun i hi => ?_⟩
    omega
  · refine ⟨_, _, rfl, fun i hi => ⟨g, 0, rfl, ?_⟩⟩
    have e : (cur.toList.take (n * 1))[i]? = (qs.map Value.string)[i]? := by rw [h5]
    rw [List.getElem?_take_of_lt (by omega), List.getElem?_map, List.getElem?_eq_getElem hi, Array.getElem?_toList] at e
    rw [Nat.zero_add]
    unfold World.cell?
    simp [hg, e]
def sug (S M : Nat) (ws vs : List ByteArray) : ByteArray := su (pl S M) (tm S M) (nu S M 0) ws vs
theorem sug_nil (S M : Nat) : sug S M [] [] = nu S M 0 := rfl
theorem sug_step {S M : Nat} (hs : M ≤ 256 ^ S) (hM : 641 ≤ M) {ws vs : List ByteArray} {i : Nat} (h : i < ws.length) (h' : i < vs.length) : numS (sug S M (ws.take (i + 1)) (vs.take (i + 1))) = (numS (sug S M (ws.take i) (vs.take i)) + numS ws[i] * numS vs[i] % M) % M := by
  unfold sug
  rw [su_take h h', pl_num hs hM, tm_num hs hM]
theorem sug_lt {S M : Nat} (hs : M ≤ 256 ^ S) (hM : 641 ≤ M) (ws vs : List ByteArray) : numS (sug S M ws vs) < M := isSc_lt (su_sc hs (by omega) _ _)
section
variable {z : Int} {G : Array Value} {S Wd M low one sq Ri Wd2 M2 low2 one2 sq2 Ri2 : Nat}
theorem pwn {x : Nat} {P : List Int} {L : List ByteArray} : go S M P L (x : Int) = sug S M (P.map fun here => wt S M P here (x : Int)) L := rfl
set_option maxHeartbeats 4000000 in
theorem value21 (k : KD z G S Wd M low one sq Ri Wd2 M2 low2 one2 sq2 Ri2) (hM : 641 ≤ M) {P : List Int} (h16 : P.length ≤ 16) (hP : ∀ y ∈ P, 0 ≤ y ∧ y ≤ 255) (hpw : P.Pairwise (· ≠ ·)) {w : World} {a b : Option Addr} {c d : Nat} {qa pa : Option Addr} {ql qc pl pc : Nat} (ia : IL w a P) {L : List ByteArray} (hL : L.length = P.length) (hsc : L.all (isSc S M) = true) (ib : SL w b L) {x : Nat} (hx : x ≤ 255) (n1 : NumV w 65536 M (.slice qa ql qc)) (n2 : NumV w 65536 M2 (.slice pa pl pc)) :
    Calls Tryz.prog 21 #[.agg #[.int .i64 (S : Int), .slice qa ql qc, .slice pa pl pc], .slice a P.length c, .slice b P.length d, .int .i64 (x : Int)] w fun e w' => (∃ v, e = .returned v ∧ NumV w' 65536 (numS (go S M P L (x : Int))) v) ∧ Below w.heap.size w w' := by
  generalize hW : w.alloc (.cells #[.int .i64 (S : Int), .slice qa ql qc, .slice pa pl pc] 41) = W
  have J : Hid (Below w.heap.size w W) := by rw [← hW]; exact (Below.refl _ w).alloc (Nat.le_refl _) _
  have I0 : Hid (IHolds W w.heap.size 41 [.int .i64 (S : Int), .slice qa ql qc, .slice pa pl pc]) := by rw [← hW]; exact IHolds.new' w 41 [.int .i64 (S : Int), .slice qa ql qc, .slice pa pl pc] rfl
  have N1 : Hid (NumV W 65536 M (.slice qa ql qc)) := n1.of_below J.out
  have N2 : Hid (NumV W 65536 M2 (.slice pa pl pc)) := n2.of_below J.out
  have HI : Hid (IL W a P) := ia.of_below J.out
  have HS : Hid (SL W b L) := ib.of_below J.out
  have hM2 := k.m2
  have NB : Hid (∀ V, Below W.heap.size W V → NumV V 65536 M (.slice qa ql qc) ∧ NumV V 65536 M2 (.slice pa pl pc)) := fun V hV => ⟨N1.out.of_below hV, N2.out.of_below hV⟩
  have CW : Hid (∀ i (hi : i < P.length) V, Below W.heap.size W V → Calls Tryz.prog 16 #[.agg #[.int .i64 (S : Int), .slice qa ql qc, .slice pa pl pc], .slice a P.length c, .int .i64 (i : Int), .int .i64 (x : Int)] V fun e w' => (∃ v, e = .returned v ∧ NumV w' 65536 (numS (wt S M P P[i] (x : Int))) v) ∧ Below V.heap.size V w') := fun i hi V hV => weight16 k hM h16 hP hpw (HI.out.of_below hV) hi hx (NB.out V hV).1 (NB.out V hV).2
  have HE : Hid (L.length = P.length) := hL
  have HSC : Hid (L.all (isSc S M) = true) := hsc
  obtain ⟨ff, hff⟩ : ∃ ff : Nat → ByteArray, ff = fun i => sug S M ((P.map fun here => wt S M P here (x : Int)).take i) (L.take i) := ⟨_, rfl⟩
  have Z0 : Hid (numS (ff 0) = 0) := by rw [hff]; exact nu_zero k.sz hM
  have LT : Hid (∀ i, numS (ff i) < M) := fun i => by rw [hff]; exact sug_lt k.sz hM _ _
  have ST : Hid (∀ i (h1 : i < P.length) (h2 : i < L.length), numS (ff (i + 1)) = (numS (ff i) + numS (wt S M P P[i] (x : Int)) * numS L[i] % M) % M) := fun i h1 h2 => by
    rw [hff]
    simp only []
    rw [sug_step k.sz hM (by simpa using h1) h2, List.getElem_map]
  have EN : Hid (numS (ff P.length) = numS (go S M P L (x : Int))) := by
    show _ = _
    rw [hff, pwn]
    simp only []
    rw [List.take_of_length_le (by simp), List.take_of_length_le (Nat.le_of_eq hL)]
  have WL : Hid (∀ here : Int, numS (wt S M P here (x : Int)) < M) := fun here => isSc_lt (wt_sc k.sz hM P here _)
  clear hff ia ib n1 n2 hL hsc hP hpw
  have O0 : Hid (∀ V, Calls Tryz.prog 24 #[.int .i64 0] V fun e w' => (∃ v, e = .returned v ∧ NumV w' 65536 0 v) ∧ Below V.heap.size V w') := fun V => of_any V 0 (by decide)
  have sB : Hid (∀ V V', Below V.heap.size V V' → Below W.heap.size W V → Below W.heap.size W V') := fun V V' h h' => h'.trans (h.mono h'.size)
  go_enter Tryz.func21, Tryz.ntmps21
  go_wp2_with (first
    | (go_at_call 24; refine (O0.out _).mono ?_; rintro e w6 ⟨⟨r6, rfl, n6⟩, hB6⟩; have B6 : Hid (Below W.heap.size W w6) := hB6; have M6 : Hid (NumV w6 65536 0 r6) := n6; clear n6 hB6 O0)
    | fail)
  clear hW
  go_loopg [9, 10, 14] P.length (fun gk v9 v10 v14 wr => ∃ (i : Nat) (u : Value), i + gk = P.length ∧ u = v9 ∧ v14 = .int .i64 (i : Int) ∧ Below W.heap.size W wr ∧ NumV wr 65536 (numS (ff i)) u)
  case atStart => exact ⟨0, _, by omega, rfl, rfl, B6.out, by rw [Z0.out]; exact M6.out⟩
  case round =>
    obtain ⟨i, u, hig, rfl, rfl, hB, hu⟩ := hrel
    have B : Hid (Below W.heap.size W wr) := hB
    obtain ⟨ua, ul, uc, rfl⟩ := sN (show Hid (NumV wr 65536 _ u) from hu)
    have NU : Hid (NumV wr 65536 (numS (ff i)) (.slice ua ul uc)) := hu
    clear hB hu
    by_cases hi : i < P.length
    · have il : (i : Int) < (P.length : Int) := by omega
      have hi2 : i < L.length := by have := HE.out; omega
      obtain ⟨b1, o1, rfl, hcl⟩ := HS.out i hi2
      have e1 : Hid _ := ST.out i hi hi2
      have RW : Hid (∀ V, Below W.heap.size W V → Calls Tryz.prog 16 #[.agg #[.int .i64 (S : Int), .slice qa ql qc, .slice pa pl pc], .slice a P.length c, .int .i64 (i : Int), .int .i64 (x : Int)] V fun e w' => (∃ v, e = .returned v ∧ NumV w' 65536 (numS (wt S M P P[i] (x : Int))) v) ∧ Below V.heap.size V w') := CW.out i hi
      have wl : Hid (numS (wt S M P P[i] (x : Int)) < M) := WL.out _
      have ps : Hid (isSc S M L[i] = true) := List.all_eq_true.1 HSC.out _ (List.getElem_mem hi2)
      generalize L[i] = s at *
      have lt := LT.out i
      generalize numS (wt S M P P[i] (x : Int)) = ww at *
      have hss := isSc_lt ps.out
      have RX : Hid (∀ V, Calls Tryz.prog 28 #[.string s] V fun e w' => (∃ v, e = .returned v ∧ NumV w' 65536 (numS s) v) ∧ Below V.heap.size V w') := fun V => read_small (isSc_size ps.out) k.hS V
      generalize numS s = ns at *
      generalize numS (ff i) = A1 at *
      have RM : Hid (∀ V va vb, Below W.heap.size W V → NumV V 65536 ww va → NumV V 65536 ns vb → Calls Tryz.prog 36 #[.agg #[.int .i64 (S : Int), .slice qa ql qc, .slice pa pl pc], va, vb] V fun e w' => (∃ v, e = .returned v ∧ NumV w' 65536 (ww * ns % M) v) ∧ Below V.heap.size V w') := fun V va vb hV ha hb => mulV k (NB.out V hV).1 (NB.out V hV).2 ha hb wl.out hss
      have RA : Hid (∀ V vb, Below W.heap.size W V → NumV V 65536 A1 (.slice ua ul uc) → NumV V 65536 (ww * ns % M) vb → Calls Tryz.prog 45 #[.agg #[.int .i64 (S : Int), .slice qa ql qc, .slice pa pl pc], .slice ua ul uc, vb] V fun e w' => (∃ v, e = .returned v ∧ NumV w' 65536 ((A1 + ww * ns % M) % M) v) ∧ Below V.heap.size V w') := fun V vb hV ha hb => addV k (NB.out V hV).1 (NB.out V hV).2 ha hb lt (Nat.mod_lt _ (by omega))
      have KP : Hid (∀ V, Below W.heap.size W V → (Below W.heap.size W V ∧ V.cell? ⟨w.heap.size, 0, none⟩ = some (.int .i64 (S : Int)) ∧ V.cell? ⟨w.heap.size, 1, none⟩ = some (.slice qa ql qc) ∧ V.cell? ⟨w.heap.size, 2, none⟩ = some (.slice pa pl pc) ∧ V.cell? ⟨b1, o1 + i, none⟩ = some (.string s))) := fun V hV => ⟨hV, cell_keep (I0.out.cell 0 (by simp)) hV, cell_keep (I0.out.cell 1 (by simp)) hV, cell_keep (I0.out.cell 2 (by simp)) hV, cell_keep hcl hV⟩
      have il2 : (i : Int) < (P.length : Int) := il
      clear lt hss hcl
      go_wp2_with fail
      go_region_held3 (fun V => Below W.heap.size W V ∧ V.cell? ⟨w.heap.size, 0, none⟩ = some (.int .i64 (S : Int)) ∧ V.cell? ⟨w.heap.size, 1, none⟩ = some (.slice qa ql qc) ∧ V.cell? ⟨w.heap.size, 2, none⟩ = some (.slice pa pl pc) ∧ V.cell? ⟨b1, o1 + i, none⟩ = some (.string s))
        (first | exact KP.out _ B.out.drew | assumption | exact KP.out _ B11.out | exact KP.out _ B10.out | exact KP.out _ B9.out | exact KP.out _ B8.out | fail)
        (first
          | (go_at_call 16; refine (RW.out _ B.out.drew).mono ?_; rintro e w8 ⟨⟨r8, rfl, n8⟩, hB8⟩; have B8 : Hid (Below W.heap.size W w8) := sB.out _ _ hB8 B.out.drew; have M8 : Hid (NumV w8 65536 ww r8) := n8; replace NU : Hid (NumV w8 65536 A1 (.slice ua ul uc)) := (NU.out.of_below (dB _)).of_below hB8; clear n8 RW)
          | (go_at_call 28; refine (RX.out _).mono ?_; rintro e w9 ⟨⟨r9, rfl, n9⟩, hB9⟩; have B9 : Hid (Below W.heap.size W w9) := sB.out _ _ hB9 B8.out; have M9 : Hid (NumV w9 65536 ns r9) := n9; replace M8 : Hid (NumV w9 65536 ww r8) := M8.out.of_below hB9; replace NU : Hid (NumV w9 65536 A1 (.slice ua ul uc)) := NU.out.of_below hB9; clear n9 RX)
          | (go_at_call 36; refine (RM.out _ _ _ B9.out M8.out M9.out).mono ?_; rintro e w10 ⟨⟨r10, rfl, n10⟩, hB10⟩; have B10 : Hid (Below W.heap.size W w10) := sB.out _ _ hB10 B9.out; have M10 : Hid (NumV w10 65536 (ww * ns % M) r10) := n10; replace NU : Hid (NumV w10 65536 A1 (.slice ua ul uc)) := NU.out.of_below hB10; clear n10 RM)
          | (go_at_call 45; refine (RA.out _ _ B10.out NU.out M10.out).mono ?_; rintro e w11 ⟨⟨r11, rfl, n11⟩, hB11⟩; have B11 : Hid (Below W.heap.size W w11) := sB.out _ _ hB11 B10.out; have M11 : Hid (NumV w11 65536 ((A1 + ww * ns % M) % M) r11) := n11; clear n11 RA)
          | fail)
      go_wp2_with fail
      go_roundg (gk - 1)
      case measure => omega
      case rel => exact ⟨i + 1, _, by omega, rfl, by go_num, B11.out, by rw [e1.out]; exact M11.out⟩
    have il : ¬ (i : Int) < (P.length : Int) := by omega
    have ei : i = P.length := by omega
    rw [ei, EN.out] at NU
    clear ei
    go_wp2_with fail
    go_ret
    exact ⟨⟨_, rfl, NU.out⟩, J.out.trans (B.out.mono J.out.size)⟩
set_option maxHeartbeats 2000000 in
theorem ref5_A (k : KD z G S Wd M low one sq Ri Wd2 M2 low2 one2 sq2 Ri2) {w : World} {a b : Option Addr} {n m c d : Nat} {kk : Int} (hk : (kk == 0) = false) (hk2 : (kk != 0) = true) (C14 : ∀ V, Below w.heap.size w V → Calls Tryz.prog 14 #[.slice a n c] V fun e w' => e = .returned (.int .i64 kk) ∧ Below V.heap.size V w') :
    Calls Tryz.prog 5 #[.int .i64 z, .slice a n c] w fun e w' => e = .returned (.tuple #[.slice none 0 0, .int .i64 kk]) ∧ Below w.heap.size w w' := by
  have H14 : Hid _ := C14
  clear C14
  have hS0 := k.hS0
  go_enter Tryz.func5, Tryz.ntmps5
  go_wp2_with fail
  refine (k.K9 _).mono ?_
  rintro e w1 ⟨⟨u1, u2, rfl, n1, n2⟩, hB1⟩
  obtain ⟨qa, ql, qc, rfl⟩ := sN (show Hid (NumV w1 65536 M u1) from n1)
  obtain ⟨pa, pl, pc, rfl⟩ := sN (show Hid (NumV w1 65536 M2 u2) from n2)
  obtain ⟨U, hU⟩ : ∃ U, w1.alloc (.cells #[.int .i64 (S : Int), .slice qa ql qc, .slice pa pl pc] 41) = U := ⟨_, rfl⟩
  have B1 : Hid (Below w.heap.size w U) := by rw [← hU]; exact hB1.trans ((nB _ _).mono hB1.size)
  have N1 : Hid (NumV U 65536 M (.slice qa ql qc)) := by rw [← hU]; exact n1.of_below (nB _ _)
  have N2 : Hid (NumV U 65536 M2 (.slice pa pl pc)) := by rw [← hU]; exact n2.of_below (nB _ _)
  have J0 : Hid (IHolds U w1.heap.size 41 [.int .i64 (S : Int), .slice qa ql qc, .slice pa pl pc]) := by rw [← hU]; exact IHolds.new' w1 41 [.int .i64 (S : Int), .slice qa ql qc, .slice pa pl pc] rfl
  have KC : Hid (∀ V, Below U.heap.size U V → V.cell? ⟨w1.heap.size, 0, none⟩ = some (.int .i64 (S : Int)) ∧ V.cell? ⟨w1.heap.size, 1, none⟩ = some (.slice qa ql qc) ∧ V.cell? ⟨w1.heap.size, 2, none⟩ = some (.slice pa pl pc)) := fun V hV => ⟨cell_keep (J0.out.cell 0 (by simp)) hV, cell_keep (J0.out.cell 1 (by simp)) hV, cell_keep (J0.out.cell 2 (by simp)) hV⟩
  have NB : Hid (∀ V, Below U.heap.size U V → NumV V 65536 M (.slice qa ql qc) ∧ NumV V 65536 M2 (.slice pa pl pc)) := fun V hV => ⟨N1.out.of_below hV, N2.out.of_below hV⟩
  have sB : Hid (∀ V V', Below V.heap.size V V' → Below U.heap.size U V → Below U.heap.size U V') := fun V V' h h' => h'.trans (h.mono h'.size)
  clear n1 n2 hB1
  obtain ⟨y0, y1, y2⟩ := KC.out U (Below.refl _ _)
  go_wp2_with (first
    | (go_at_call 14; refine (H14.out _ (B1.out.trans ((Below.refl U.heap.size U).mono B1.out.size))).mono ?_; rintro e v14 ⟨rfl, hB14⟩; have D14 : Hid (Below U.heap.size U v14) := hB14; obtain ⟨y0, y1, y2⟩ := KC.out v14 hB14; clear hB14 H14)
    | fail)
  exact bodyPost_ret (v := .tuple #[.slice none 0 0, .int .i64 kk]) (by simp [results, Tryz.results5, go_sem]) rfl ⟨rfl, B1.out.trans (D14.out.mono B1.out.size)⟩
set_option maxHeartbeats 2000000 in
theorem ref8_A (k : KD z G S Wd M low one sq Ri Wd2 M2 low2 one2 sq2 Ri2) {w : World} {a b : Option Addr} {n m c d : Nat} {kk x : Int} (hk : (kk == 0) = false) (hk2 : (kk != 0) = true) (C14 : ∀ V, Below w.heap.size w V → Calls Tryz.prog 14 #[.slice a n c] V fun e w' => e = .returned (.int .i64 kk) ∧ Below V.heap.size V w') :
    Calls Tryz.prog 8 #[.int .i64 z, .slice a n c, .slice b m d, .int .i64 x] w fun e w' => e = .returned (.tuple #[.string ⟨#[]⟩, .int .i64 kk]) ∧ Below w.heap.size w w' := by
  have H14 : Hid _ := C14
  clear C14
  have hS0 := k.hS0
  go_enter Tryz.func8, Tryz.ntmps8
  go_wp2_with fail
  refine (k.K9 _).mono ?_
  rintro e w1 ⟨⟨u1, u2, rfl, n1, n2⟩, hB1⟩
  obtain ⟨qa, ql, qc, rfl⟩ := sN (show Hid (NumV w1 65536 M u1) from n1)
  obtain ⟨pa, pl, pc, rfl⟩ := sN (show Hid (NumV w1 65536 M2 u2) from n2)
  obtain ⟨U, hU⟩ : ∃ U, w1.alloc (.cells #[.int .i64 (S : Int), .slice qa ql qc, .slice pa pl pc] 41) = U := ⟨_, rfl⟩
  have B1 : Hid (Below w.heap.size w U) := by rw [← hU]; exact hB1.trans ((nB _ _).mono hB1.size)
  have N1 : Hid (NumV U 65536 M (.slice qa ql qc)) := by rw [← hU]; exact n1.of_below (nB _ _)
  have N2 : Hid (NumV U 65536 M2 (.slice pa pl pc)) := by rw [← hU]; exact n2.of_below (nB _ _)
  have J0 : Hid (IHolds U w1.heap.size 41 [.int .i64 (S : Int), .slice qa ql qc, .slice pa pl pc]) := by rw [← hU]; exact IHolds.new' w1 41 [.int .i64 (S : Int), .slice qa ql qc, .slice pa pl pc] rfl
  have KC : Hid (∀ V, Below U.heap.size U V → V.cell? ⟨w1.heap.size, 0, none⟩ = some (.int .i64 (S : Int)) ∧ V.cell? ⟨w1.heap.size, 1, none⟩ = some (.slice qa ql qc) ∧ V.cell? ⟨w1.heap.size, 2, none⟩ = some (.slice pa pl pc)) := fun V hV => ⟨cell_keep (J0.out.cell 0 (by simp)) hV, cell_keep (J0.out.cell 1 (by simp)) hV, cell_keep (J0.out.cell 2 (by simp)) hV⟩
  have NB : Hid (∀ V, Below U.heap.size U V → NumV V 65536 M (.slice qa ql qc) ∧ NumV V 65536 M2 (.slice pa pl pc)) := fun V hV => ⟨N1.out.of_below hV, N2.out.of_below hV⟩
  have sB : Hid (∀ V V', Below V.heap.size V V' → Below U.heap.size U V → Below U.heap.size U V') := fun V V' h h' => h'.trans (h.mono h'.size)
  clear n1 n2 hB1
  obtain ⟨y0, y1, y2⟩ := KC.out U (Below.refl _ _)
  go_wp2_with (first
    | (go_at_call 14; refine (H14.out _ (B1.out.trans ((Below.refl U.heap.size U).mono B1.out.size))).mono ?_; rintro e v14 ⟨rfl, hB14⟩; have D14 : Hid (Below U.heap.size U v14) := hB14; obtain ⟨y0, y1, y2⟩ := KC.out v14 hB14; clear hB14 H14)
    | fail)
  exact bodyPost_ret (v := .tuple #[.string ⟨#[]⟩, .int .i64 kk]) (by simp [results, Tryz.results8, go_sem]) rfl ⟨rfl, B1.out.trans (D14.out.mono B1.out.size)⟩
set_option maxHeartbeats 2000000 in
theorem ref10_A (k : KD z G S Wd M low one sq Ri Wd2 M2 low2 one2 sq2 Ri2) {w : World} {a b : Option Addr} {n m c d : Nat} {kk : Int} (hk : (kk == 0) = false) (hk2 : (kk != 0) = true) (C14 : ∀ V, Below w.heap.size w V → Calls Tryz.prog 14 #[.slice a n c] V fun e w' => e = .returned (.int .i64 kk) ∧ Below V.heap.size V w') :
    Calls Tryz.prog 10 #[.int .i64 z, .slice a n c, .slice b m d] w fun e w' => e = .returned (.tuple #[.string ⟨#[]⟩, .int .i64 kk]) ∧ Below w.heap.size w w' := by
  have H14 : Hid _ := C14
  clear C14
  have hS0 := k.hS0
  go_enter Tryz.func10, Tryz.ntmps10
  go_wp2_with fail
  refine (k.K9 _).mono ?_
  rintro e w1 ⟨⟨u1, u2, rfl, n1, n2⟩, hB1⟩
  obtain ⟨qa, ql, qc, rfl⟩ := sN (show Hid (NumV w1 65536 M u1) from n1)
  obtain ⟨pa, pl, pc, rfl⟩ := sN (show Hid (NumV w1 65536 M2 u2) from n2)
  obtain ⟨U, hU⟩ : ∃ U, w1.alloc (.cells #[.int .i64 (S : Int), .slice qa ql qc, .slice pa pl pc] 41) = U := ⟨_, rfl⟩
  have B1 : Hid (Below w.heap.size w U) := by rw [← hU]; exact hB1.trans ((nB _ _).mono hB1.size)
  have N1 : Hid (NumV U 65536 M (.slice qa ql qc)) := by rw [← hU]; exact n1.of_below (nB _ _)
  have N2 : Hid (NumV U 65536 M2 (.slice pa pl pc)) := by rw [← hU]; exact n2.of_below (nB _ _)
  have J0 : Hid (IHolds U w1.heap.size 41 [.int .i64 (S : Int), .slice qa ql qc, .slice pa pl pc]) := by rw [← hU]; exact IHolds.new' w1 41 [.int .i64 (S : Int), .slice qa ql qc, .slice pa pl pc] rfl
  have KC : Hid (∀ V, Below U.heap.size U V → V.cell? ⟨w1.heap.size, 0, none⟩ = some (.int .i64 (S : Int)) ∧ V.cell? ⟨w1.heap.size, 1, none⟩ = some (.slice qa ql qc) ∧ V.cell? ⟨w1.heap.size, 2, none⟩ = some (.slice pa pl pc)) := fun V hV => ⟨cell_keep (J0.out.cell 0 (by simp)) hV, cell_keep (J0.out.cell 1 (by simp)) hV, cell_keep (J0.out.cell 2 (by simp)) hV⟩
  have NB : Hid (∀ V, Below U.heap.size U V → NumV V 65536 M (.slice qa ql qc) ∧ NumV V 65536 M2 (.slice pa pl pc)) := fun V hV => ⟨N1.out.of_below hV, N2.out.of_below hV⟩
  have sB : Hid (∀ V V', Below V.heap.size V V' → Below U.heap.size U V → Below U.heap.size U V') := fun V V' h h' => h'.trans (h.mono h'.size)
  clear n1 n2 hB1
  obtain ⟨y0, y1, y2⟩ := KC.out U (Below.refl _ _)
  go_wp2_with (first
    | (go_at_call 14; refine (H14.out _ (B1.out.trans ((Below.refl U.heap.size U).mono B1.out.size))).mono ?_; rintro e v14 ⟨rfl, hB14⟩; have D14 : Hid (Below U.heap.size U v14) := hB14; obtain ⟨y0, y1, y2⟩ := KC.out v14 hB14; clear hB14 H14)
    | fail)
  exact bodyPost_ret (v := .tuple #[.string ⟨#[]⟩, .int .i64 kk]) (by simp [results, Tryz.results10, go_sem]) rfl ⟨rfl, B1.out.trans (D14.out.mono B1.out.size)⟩
set_option maxHeartbeats 2000000 in
theorem ref8_B (k : KD z G S Wd M low one sq Ri Wd2 M2 low2 one2 sq2 Ri2) {w : World} {a b : Option Addr} {n m c d : Nat} {kk x : Int} (hk : (kk == 0) = false) (hk2 : (kk != 0) = true) (C14 : ∀ V, Below w.heap.size w V → Calls Tryz.prog 14 #[.slice a n c] V fun e w' => e = .returned (.int .i64 0) ∧ Below V.heap.size V w') (C20 : ∀ V qa ql qc pa pl pc, Below w.heap.size w V → NumV V 65536 M (.slice qa ql qc) → NumV V 65536 M2 (.slice pa pl pc) → Calls Tryz.prog 20 #[.agg #[.int .i64 (S : Int), .slice qa ql qc, .slice pa pl pc], .int .i64 (n : Int), .slice b m d] V fun e w' => e = .returned (.int .i64 kk) ∧ Below V.heap.size V w') :
    Calls Tryz.prog 8 #[.int .i64 z, .slice a n c, .slice b m d, .int .i64 x] w fun e w' => e = .returned (.tuple #[.string ⟨#[]⟩, .int .i64 kk]) ∧ Below w.heap.size w w' := by
  have H14 : Hid _ := C14
  have H20 : Hid _ := C20
  clear C14 C20
  have hS0 := k.hS0
  go_enter Tryz.func8, Tryz.ntmps8
  go_wp2_with fail
  refine (k.K9 _).mono ?_
  rintro e w1 ⟨⟨u1, u2, rfl, n1, n2⟩, hB1⟩
  obtain ⟨qa, ql, qc, rfl⟩ := sN (show Hid (NumV w1 65536 M u1) from n1)
  obtain ⟨pa, pl, pc, rfl⟩ := sN (show Hid (NumV w1 65536 M2 u2) from n2)
  obtain ⟨U, hU⟩ : ∃ U, w1.alloc (.cells #[.int .i64 (S : Int), .slice qa ql qc, .slice pa pl pc] 41) = U := ⟨_, rfl⟩
  have B1 : Hid (Below w.heap.size w U) := by rw [← hU]; exact hB1.trans ((nB _ _).mono hB1.size)
  have N1 : Hid (NumV U 65536 M (.slice qa ql qc)) := by rw [← hU]; exact n1.of_below (nB _ _)
  have N2 : Hid (NumV U 65536 M2 (.slice pa pl pc)) := by rw [← hU]; exact n2.of_below (nB _ _)
  have J0 : Hid (IHolds U w1.heap.size 41 [.int .i64 (S : Int), .slice qa ql qc, .slice pa pl pc]) := by rw [← hU]; exact IHolds.new' w1 41 [.int .i64 (S : Int), .slice qa ql qc, .slice pa pl pc] rfl
  have KC : Hid (∀ V, Below U.heap.size U V → V.cell? ⟨w1.heap.size, 0, none⟩ = some (.int .i64 (S : Int)) ∧ V.cell? ⟨w1.heap.size, 1, none⟩ = some (.slice qa ql qc) ∧ V.cell? ⟨w1.heap.size, 2, none⟩ = some (.slice pa pl pc)) := fun V hV => ⟨cell_keep (J0.out.cell 0 (by simp)) hV, cell_keep (J0.out.cell 1 (by simp)) hV, cell_keep (J0.out.cell 2 (by simp)) hV⟩
  have NB : Hid (∀ V, Below U.heap.size U V → NumV V 65536 M (.slice qa ql qc) ∧ NumV V 65536 M2 (.slice pa pl pc)) := fun V hV => ⟨N1.out.of_below hV, N2.out.of_below hV⟩
  have sB : Hid (∀ V V', Below V.heap.size V V' → Below U.heap.size U V → Below U.heap.size U V') := fun V V' h h' => h'.trans (h.mono h'.size)
  clear n1 n2 hB1
  obtain ⟨y0, y1, y2⟩ := KC.out U (Below.refl _ _)
  go_wp2_with (first
    | (go_at_call 14; refine (H14.out _ (B1.out.trans ((Below.refl U.heap.size U).mono B1.out.size))).mono ?_; rintro e v14 ⟨rfl, hB14⟩; have D14 : Hid (Below U.heap.size U v14) := hB14; obtain ⟨y0, y1, y2⟩ := KC.out v14 hB14; clear hB14 H14)
    | (go_at_call 20; refine (H20.out _ qa ql qc pa pl pc (B1.out.trans (D14.out.mono B1.out.size)) (NB.out _ D14.out).1 (NB.out _ D14.out).2).mono ?_; rintro e v20 ⟨rfl, hB20⟩; have D20 : Hid (Below U.heap.size U v20) := sB.out _ _ hB20 D14.out; obtain ⟨y0, y1, y2⟩ := KC.out v20 D20.out; clear hB20 H20)
    | fail)
  exact bodyPost_ret (v := .tuple #[.string ⟨#[]⟩, .int .i64 kk]) (by simp [results, Tryz.results8, go_sem]) rfl ⟨rfl, B1.out.trans (D20.out.mono B1.out.size)⟩
set_option maxHeartbeats 2000000 in
theorem ref8_C (k : KD z G S Wd M low one sq Ri Wd2 M2 low2 one2 sq2 Ri2) {w : World} {a b : Option Addr} {n m c d : Nat} {x : Int} (hx : x < 0) (C14 : ∀ V, Below w.heap.size w V → Calls Tryz.prog 14 #[.slice a n c] V fun e w' => e = .returned (.int .i64 0) ∧ Below V.heap.size V w') (C20 : ∀ V qa ql qc pa pl pc, Below w.heap.size w V → NumV V 65536 M (.slice qa ql qc) → NumV V 65536 M2 (.slice pa pl pc) → Calls Tryz.prog 20 #[.agg #[.int .i64 (S : Int), .slice qa ql qc, .slice pa pl pc], .int .i64 (n : Int), .slice b m d] V fun e w' => e = .returned (.int .i64 0) ∧ Below V.heap.size V w') :
    Calls Tryz.prog 8 #[.int .i64 z, .slice a n c, .slice b m d, .int .i64 x] w fun e w' => e = .returned (.tuple #[.string ⟨#[]⟩, .int .i64 4]) ∧ Below w.heap.size w w' := by
  have H14 : Hid _ := C14
  have H20 : Hid _ := C20
  clear C14 C20
  have hS0 := k.hS0
  go_enter Tryz.func8, Tryz.ntmps8
  go_wp2_with fail
  refine (k.K9 _).mono ?_
  rintro e w1 ⟨⟨u1, u2, rfl, n1, n2⟩, hB1⟩
  obtain ⟨qa, ql, qc, rfl⟩ := sN (show Hid (NumV w1 65536 M u1) from n1)
  obtain ⟨pa, pl, pc, rfl⟩ := sN (show Hid (NumV w1 65536 M2 u2) from n2)
  obtain ⟨U, hU⟩ : ∃ U, w1.alloc (.cells #[.int .i64 (S : Int), .slice qa ql qc, .slice pa pl pc] 41) = U := ⟨_, rfl⟩
  have B1 : Hid (Below w.heap.size w U) := by rw [← hU]; exact hB1.trans ((nB _ _).mono hB1.size)
  have N1 : Hid (NumV U 65536 M (.slice qa ql qc)) := by rw [← hU]; exact n1.of_below (nB _ _)
  have N2 : Hid (NumV U 65536 M2 (.slice pa pl pc)) := by rw [← hU]; exact n2.of_below (nB _ _)
  have J0 : Hid (IHolds U w1.heap.size 41 [.int .i64 (S : Int), .slice qa ql qc, .slice pa pl pc]) := by rw [← hU]; exact IHolds.new' w1 41 [.int .i64 (S : Int), .slice qa ql qc, .slice pa pl pc] rfl
  have KC : Hid (∀ V, Below U.heap.size U V → V.cell? ⟨w1.heap.size, 0, none⟩ = some (.int .i64 (S : Int)) ∧ V.cell? ⟨w1.heap.size, 1, none⟩ = some (.slice qa ql qc) ∧ V.cell? ⟨w1.heap.size, 2, none⟩ = some (.slice pa pl pc)) := fun V hV => ⟨cell_keep (J0.out.cell 0 (by simp)) hV, cell_keep (J0.out.cell 1 (by simp)) hV, cell_keep (J0.out.cell 2 (by simp)) hV⟩
  have NB : Hid (∀ V, Below U.heap.size U V → NumV V 65536 M (.slice qa ql qc) ∧ NumV V 65536 M2 (.slice pa pl pc)) := fun V hV => ⟨N1.out.of_below hV, N2.out.of_below hV⟩
  have sB : Hid (∀ V V', Below V.heap.size V V' → Below U.heap.size U V → Below U.heap.size U V') := fun V V' h h' => h'.trans (h.mono h'.size)
  clear n1 n2 hB1
  obtain ⟨y0, y1, y2⟩ := KC.out U (Below.refl _ _)
  go_wp2_with (first
    | (go_at_call 14; refine (H14.out _ (B1.out.trans ((Below.refl U.heap.size U).mono B1.out.size))).mono ?_; rintro e v14 ⟨rfl, hB14⟩; have D14 : Hid (Below U.heap.size U v14) := hB14; obtain ⟨y0, y1, y2⟩ := KC.out v14 hB14; clear hB14 H14)
    | (go_at_call 20; refine (H20.out _ qa ql qc pa pl pc (B1.out.trans (D14.out.mono B1.out.size)) (NB.out _ D14.out).1 (NB.out _ D14.out).2).mono ?_; rintro e v20 ⟨rfl, hB20⟩; have D20 : Hid (Below U.heap.size U v20) := sB.out _ _ hB20 D14.out; obtain ⟨y0, y1, y2⟩ := KC.out v20 D20.out; clear hB20 H20)
    | fail)
  exact bodyPost_ret (v := .tuple #[.string ⟨#[]⟩, .int .i64 4]) (by simp [results, Tryz.results8, go_sem]) rfl ⟨rfl, B1.out.trans (D20.out.mono B1.out.size)⟩
set_option maxHeartbeats 2000000 in
theorem ref8_D (k : KD z G S Wd M low one sq Ri Wd2 M2 low2 one2 sq2 Ri2) {w : World} {a b : Option Addr} {n m c d : Nat} {x : Int} (hx0 : ¬ x < 0) (hx : (255 : Int) < x) (C14 : ∀ V, Below w.heap.size w V → Calls Tryz.prog 14 #[.slice a n c] V fun e w' => e = .returned (.int .i64 0) ∧ Below V.heap.size V w') (C20 : ∀ V qa ql qc pa pl pc, Below w.heap.size w V → NumV V 65536 M (.slice qa ql qc) → NumV V 65536 M2 (.slice pa pl pc) → Calls Tryz.prog 20 #[.agg #[.int .i64 (S : Int), .slice qa ql qc, .slice pa pl pc], .int .i64 (n : Int), .slice b m d] V fun e w' => e = .returned (.int .i64 0) ∧ Below V.heap.size V w') :
    Calls Tryz.prog 8 #[.int .i64 z, .slice a n c, .slice b m d, .int .i64 x] w fun e w' => e = .returned (.tuple #[.string ⟨#[]⟩, .int .i64 4]) ∧ Below w.heap.size w w' := by
  have H14 : Hid _ := C14
  have H20 : Hid _ := C20
  clear C14 C20
  have hS0 := k.hS0
  go_enter Tryz.func8, Tryz.ntmps8
  go_wp2_with fail
  refine (k.K9 _).mono ?_
  rintro e w1 ⟨⟨u1, u2, rfl, n1, n2⟩, hB1⟩
  obtain ⟨qa, ql, qc, rfl⟩ := sN (show Hid (NumV w1 65536 M u1) from n1)
  obtain ⟨pa, pl, pc, rfl⟩ := sN (show Hid (NumV w1 65536 M2 u2) from n2)
  obtain ⟨U, hU⟩ : ∃ U, w1.alloc (.cells #[.int .i64 (S : Int), .slice qa ql qc, .slice pa pl pc] 41) = U := ⟨_, rfl⟩
  have B1 : Hid (Below w.heap.size w U) := by rw [← hU]; exact hB1.trans ((nB _ _).mono hB1.size)
  have N1 : Hid (NumV U 65536 M (.slice qa ql qc)) := by rw [← hU]; exact n1.of_below (nB _ _)
  have N2 : Hid (NumV U 65536 M2 (.slice pa pl pc)) := by rw [← hU]; exact n2.of_below (nB _ _)
  have J0 : Hid (IHolds U w1.heap.size 41 [.int .i64 (S : Int), .slice qa ql qc, .slice pa pl pc]) := by rw [← hU]; exact IHolds.new' w1 41 [.int .i64 (S : Int), .slice qa ql qc, .slice pa pl pc] rfl
  have KC : Hid (∀ V, Below U.heap.size U V → V.cell? ⟨w1.heap.size, 0, none⟩ = some (.int .i64 (S : Int)) ∧ V.cell? ⟨w1.heap.size, 1, none⟩ = some (.slice qa ql qc) ∧ V.cell? ⟨w1.heap.size, 2, none⟩ = some (.slice pa pl pc)) := fun V hV => ⟨cell_keep (J0.out.cell 0 (by simp)) hV, cell_keep (J0.out.cell 1 (by simp)) hV, cell_keep (J0.out.cell 2 (by simp)) hV⟩
  have NB : Hid (∀ V, Below U.heap.size U V → NumV V 65536 M (.slice qa ql qc) ∧ NumV V 65536 M2 (.slice pa pl pc)) := fun V hV => ⟨N1.out.of_below hV, N2.out.of_below hV⟩
  have sB : Hid (∀ V V', Below V.heap.size V V' → Below U.heap.size U V → Below U.heap.size U V') := fun V V' h h' => h'.trans (h.mono h'.size)
  clear n1 n2 hB1
  obtain ⟨y0, y1, y2⟩ := KC.out U (Below.refl _ _)
  go_wp2_with (first
    | (go_at_call 14; refine (H14.out _ (B1.out.trans ((Below.refl U.heap.size U).mono B1.out.size))).mono ?_; rintro e v14 ⟨rfl, hB14⟩; have D14 : Hid (Below U.heap.size U v14) := hB14; obtain ⟨y0, y1, y2⟩ := KC.out v14 hB14; clear hB14 H14)
    | (go_at_call 20; refine (H20.out _ qa ql qc pa pl pc (B1.out.trans (D14.out.mono B1.out.size)) (NB.out _ D14.out).1 (NB.out _ D14.out).2).mono ?_; rintro e v20 ⟨rfl, hB20⟩; have D20 : Hid (Below U.heap.size U v20) := sB.out _ _ hB20 D14.out; obtain ⟨y0, y1, y2⟩ := KC.out v20 D20.out; clear hB20 H20)
    | fail)
  exact bodyPost_ret (v := .tuple #[.string ⟨#[]⟩, .int .i64 4]) (by simp [results, Tryz.results8, go_sem]) rfl ⟨rfl, B1.out.trans (D20.out.mono B1.out.size)⟩
set_option maxHeartbeats 2000000 in
theorem ref10_B (k : KD z G S Wd M low one sq Ri Wd2 M2 low2 one2 sq2 Ri2) {w : World} {a b : Option Addr} {n m c d : Nat} (hne : ((m : Int) != (n : Int)) = true) (C14 : ∀ V, Below w.heap.size w V → Calls Tryz.prog 14 #[.slice a n c] V fun e w' => e = .returned (.int .i64 0) ∧ Below V.heap.size V w') :
    Calls Tryz.prog 10 #[.int .i64 z, .slice a n c, .slice b m d] w fun e w' => e = .returned (.tuple #[.string ⟨#[]⟩, .int .i64 2]) ∧ Below w.heap.size w w' := by
  have H14 : Hid _ := C14
  clear C14
  have hS0 := k.hS0
  go_enter Tryz.func10, Tryz.ntmps10
  go_wp2_with fail
  refine (k.K9 _).mono ?_
  rintro e w1 ⟨⟨u1, u2, rfl, n1, n2⟩, hB1⟩
  obtain ⟨qa, ql, qc, rfl⟩ := sN (show Hid (NumV w1 65536 M u1) from n1)
  obtain ⟨pa, pl, pc, rfl⟩ := sN (show Hid (NumV w1 65536 M2 u2) from n2)
  obtain ⟨U, hU⟩ : ∃ U, w1.alloc (.cells #[.int .i64 (S : Int), .slice qa ql qc, .slice pa pl pc] 41) = U := ⟨_, rfl⟩
  have B1 : Hid (Below w.heap.size w U) := by rw [← hU]; exact hB1.trans ((nB _ _).mono hB1.size)
  have N1 : Hid (NumV U 65536 M (.slice qa ql qc)) := by rw [← hU]; exact n1.of_below (nB _ _)
  have N2 : Hid (NumV U 65536 M2 (.slice pa pl pc)) := by rw [← hU]; exact n2.of_below (nB _ _)
  have J0 : Hid (IHolds U w1.heap.size 41 [.int .i64 (S : Int), .slice qa ql qc, .slice pa pl pc]) := by rw [← hU]; exact IHolds.new' w1 41 [.int .i64 (S : Int), .slice qa ql qc, .slice pa pl pc] rfl
  have KC : Hid (∀ V, Below U.heap.size U V → V.cell? ⟨w1.heap.size, 0, none⟩ = some (.int .i64 (S : Int)) ∧ V.cell? ⟨w1.heap.size, 1, none⟩ = some (.slice qa ql qc) ∧ V.cell? ⟨w1.heap.size, 2, none⟩ = some (.slice pa pl pc)) := fun V hV => ⟨cell_keep (J0.out.cell 0 (by simp)) hV, cell_keep (J0.out.cell 1 (by simp)) hV, cell_keep (J0.out.cell 2 (by simp)) hV⟩
  have NB : Hid (∀ V, Below U.heap.size U V → NumV V 65536 M (.slice qa ql qc) ∧ NumV V 65536 M2 (.slice pa pl pc)) := fun V hV => ⟨N1.out.of_below hV, N2.out.of_below hV⟩
  have sB : Hid (∀ V V', Below V.heap.size V V' → Below U.heap.size U V → Below U.heap.size U V') := fun V V' h h' => h'.trans (h.mono h'.size)
  clear n1 n2 hB1
  obtain ⟨y0, y1, y2⟩ := KC.out U (Below.refl _ _)
  go_wp2_with (first
    | (go_at_call 14; refine (H14.out _ (B1.out.trans ((Below.refl U.heap.size U).mono B1.out.size))).mono ?_; rintro e v14 ⟨rfl, hB14⟩; have D14 : Hid (Below U.heap.size U v14) := hB14; obtain ⟨y0, y1, y2⟩ := KC.out v14 hB14; clear hB14 H14)
    | fail)
  exact bodyPost_ret (v := .tuple #[.string ⟨#[]⟩, .int .i64 2]) (by simp [results, Tryz.results10, go_sem]) rfl ⟨rfl, B1.out.trans (D14.out.mono B1.out.size)⟩
set_option maxHeartbeats 2000000 in
theorem ref8_E (k : KD z G S Wd M low one sq Ri Wd2 M2 low2 one2 sq2 Ri2) {w : World} {a b : Option Addr} {n m c d nn : Nat} {x : Int} {T : ByteArray} (hx0 : ¬ x < 0) (hx : ¬ (255 : Int) < x) (hnn : nn < M) (hT : TX S nn = T) (C14 : ∀ V, Below w.heap.size w V → Calls Tryz.prog 14 #[.slice a n c] V fun e w' => e = .returned (.int .i64 0) ∧ Below V.heap.size V w') (C20 : ∀ V qa ql qc pa pl pc, Below w.heap.size w V → NumV V 65536 M (.slice qa ql qc) → NumV V 65536 M2 (.slice pa pl pc) → Calls Tryz.prog 20 #[.agg #[.int .i64 (S : Int), .slice qa ql qc, .slice pa pl pc], .int .i64 (n : Int), .slice b m d] V fun e w' => e = .returned (.int .i64 0) ∧ Below V.heap.size V w')
    (C21 : ∀ V qa ql qc pa pl pc, Below w.heap.size w V → NumV V 65536 M (.slice qa ql qc) → NumV V 65536 M2 (.slice pa pl pc) → Calls Tryz.prog 21 #[.agg #[.int .i64 (S : Int), .slice qa ql qc, .slice pa pl pc], .slice a n c, .slice b m d, .int .i64 x] V fun e w' => (∃ v, e = .returned v ∧ NumV w' 65536 nn v) ∧ Below V.heap.size V w') :
    Calls Tryz.prog 8 #[.int .i64 z, .slice a n c, .slice b m d, .int .i64 x] w fun e w' => e = .returned (.tuple #[.string T, .int .i64 0]) ∧ Below w.heap.size w w' := by
  have H14 : Hid _ := C14
  have H20 : Hid _ := C20
  have H21 : Hid _ := C21
  have RT : Hid (∀ V va, NumV V 65536 nn va → Calls Tryz.prog 15 #[va, .int .i64 (S : Int)] V fun e w' => e = .returned (.string T) ∧ Below V.heap.size V w') := fun V va ha => by rw [← hT]; exact refTextV (S := S) ha (lenD (Nat.le_of_lt hnn) k.l5) (by have := k.hS; omega)
  clear C14 C20 C21 hT hnn
  have hS0 := k.hS0
  go_enter Tryz.func8, Tryz.ntmps8
  go_wp2_with fail
  refine (k.K9 _).mono ?_
  rintro e w1 ⟨⟨u1, u2, rfl, n1, n2⟩, hB1⟩
  obtain ⟨qa, ql, qc, rfl⟩ := sN (show Hid (NumV w1 65536 M u1) from n1)
  obtain ⟨pa, pl, pc, rfl⟩ := sN (show Hid (NumV w1 65536 M2 u2) from n2)
  obtain ⟨U, hU⟩ : ∃ U, w1.alloc (.cells #[.int .i64 (S : Int), .slice qa ql qc, .slice pa pl pc] 41) = U := ⟨_, rfl⟩
  have B1 : Hid (Below w.heap.size w U) := by rw [← hU]; exact hB1.trans ((nB _ _).mono hB1.size)
  have N1 : Hid (NumV U 65536 M (.slice qa ql qc)) := by rw [← hU]; exact n1.of_below (nB _ _)
  have N2 : Hid (NumV U 65536 M2 (.slice pa pl pc)) := by rw [← hU]; exact n2.of_below (nB _ _)
  have J0 : Hid (IHolds U w1.heap.size 41 [.int .i64 (S : Int), .slice qa ql qc, .slice pa pl pc]) := by rw [← hU]; exact IHolds.new' w1 41 [.int .i64 (S : Int), .slice qa ql qc, .slice pa pl pc] rfl
  have KC : Hid (∀ V, Below U.heap.size U V → V.cell? ⟨w1.heap.size, 0, none⟩ = some (.int .i64 (S : Int)) ∧ V.cell? ⟨w1.heap.size, 1, none⟩ = some (.slice qa ql qc) ∧ V.cell? ⟨w1.heap.size, 2, none⟩ = some (.slice pa pl pc)) := fun V hV => ⟨cell_keep (J0.out.cell 0 (by simp)) hV, cell_keep (J0.out.cell 1 (by simp)) hV, cell_keep (J0.out.cell 2 (by simp)) hV⟩
  have NB : Hid (∀ V, Below U.heap.size U V → NumV V 65536 M (.slice qa ql qc) ∧ NumV V 65536 M2 (.slice pa pl pc)) := fun V hV => ⟨N1.out.of_below hV, N2.out.of_below hV⟩
  have sB : Hid (∀ V V', Below V.heap.size V V' → Below U.heap.size U V → Below U.heap.size U V') := fun V V' h h' => h'.trans (h.mono h'.size)
  clear n1 n2 hB1
  obtain ⟨y0, y1, y2⟩ := KC.out U (Below.refl _ _)
  go_wp2_with (first
    | (go_at_call 14; refine (H14.out _ (B1.out.trans ((Below.refl U.heap.size U).mono B1.out.size))).mono ?_; rintro e v14 ⟨rfl, hB14⟩; have D14 : Hid (Below U.heap.size U v14) := hB14; obtain ⟨y0, y1, y2⟩ := KC.out v14 hB14; clear hB14 H14)
    | (go_at_call 20; refine (H20.out _ qa ql qc pa pl pc (B1.out.trans (D14.out.mono B1.out.size)) (NB.out _ D14.out).1 (NB.out _ D14.out).2).mono ?_; rintro e v20 ⟨rfl, hB20⟩; have D20 : Hid (Below U.heap.size U v20) := sB.out _ _ hB20 D14.out; obtain ⟨y0, y1, y2⟩ := KC.out v20 D20.out; clear hB20 H20)
    | fail)
  have KP : Hid (∀ V, Below U.heap.size U V → (Below U.heap.size U V ∧ V.cell? ⟨w1.heap.size, 0, none⟩ = some (.int .i64 (S : Int)) ∧ V.cell? ⟨w1.heap.size, 1, none⟩ = some (.slice qa ql qc) ∧ V.cell? ⟨w1.heap.size, 2, none⟩ = some (.slice pa pl pc))) := fun V hV => ⟨hV, KC.out V hV⟩
  clear y0 y1 y2
  go_region_held3 (fun V => Below U.heap.size U V ∧ V.cell? ⟨w1.heap.size, 0, none⟩ = some (.int .i64 (S : Int)) ∧ V.cell? ⟨w1.heap.size, 1, none⟩ = some (.slice qa ql qc) ∧ V.cell? ⟨w1.heap.size, 2, none⟩ = some (.slice pa pl pc))
    (first | exact KP.out _ D20.out.drew | assumption | exact KP.out _ D15.out | exact KP.out _ D21.out | fail)
    (first
      | (go_at_call 21; refine (H21.out _ qa ql qc pa pl pc (B1.out.trans (D20.out.drew.mono B1.out.size)) (NB.out _ D20.out.drew).1 (NB.out _ D20.out.drew).2).mono ?_; rintro e v21 ⟨⟨r21, rfl, n21⟩, hB21⟩; have D21 : Hid (Below U.heap.size U v21) := sB.out _ _ hB21 D20.out.drew; have M21 : Hid (NumV v21 65536 nn r21) := n21; clear n21 H21)
      | (go_at_call 15; refine (RT.out _ _ M21.out).mono ?_; rintro e v15 ⟨rfl, hB15⟩; have D15 : Hid (Below U.heap.size U v15) := sB.out _ _ hB15 D21.out; clear RT)
      | fail)
  go_wp2_with fail
  exact bodyPost_ret (v := .tuple #[.string T, .int .i64 0]) (by simp [results, Tryz.results8, go_sem]) rfl ⟨rfl, B1.out.trans (D15.out.mono B1.out.size)⟩
end
set_option maxHeartbeats 2000000 in
theorem ref5_none {w : World} {z : Int} (z1 : z ≠ 1) (z2 : z ≠ 2) (z3 : z ≠ 3) {a b : Option Addr} {n m c d : Nat} :
    Calls Tryz.prog 5 #[.int .i64 z, .slice a n c] w fun e w' => e = .returned (.tuple #[.slice none 0 0, .int .i64 1]) ∧ Below w.heap.size w w' := by
  have q1 : Hid ((z == 1) = false) := beq_eq_false_iff_ne.2 z1
  have q1' : Hid ((z != 1) = true) := bne_iff_ne.2 z1
  have q2 : Hid ((z == 2) = false) := beq_eq_false_iff_ne.2 z2
  have q3 : Hid ((z == 3) = false) := beq_eq_false_iff_ne.2 z3
  clear z1 z2 z3
  go_enter Tryz.func5, Tryz.ntmps5
  go_wp2_with fail
  refine (kind0 _ z q1.out q1'.out q2.out q3.out).mono ?_
  rintro e w1 ⟨rfl, hB1⟩
  have B1 : Hid (Below w.heap.size w (w1.alloc (.cells #[.int .i64 0, .slice none 0 0, .slice none 0 0] 41))) := hB1.trans ((nB _ _).mono hB1.size)
  clear hB1
  go_wp2_with fail
  exact bodyPost_ret (v := .tuple #[.slice none 0 0, .int .i64 1]) (by simp [results, Tryz.results5, go_sem]) rfl ⟨rfl, B1.out⟩
set_option maxHeartbeats 2000000 in
theorem ref8_none {w : World} {z : Int} (z1 : z ≠ 1) (z2 : z ≠ 2) (z3 : z ≠ 3) {a b : Option Addr} {n m c d : Nat} {x : Int} :
    Calls Tryz.prog 8 #[.int .i64 z, .slice a n c, .slice b m d, .int .i64 x] w fun e w' => e = .returned (.tuple #[.string ⟨#[]⟩, .int .i64 1]) ∧ Below w.heap.size w w' := by
  have q1 : Hid ((z == 1) = false) := beq_eq_false_iff_ne.2 z1
  have q1' : Hid ((z != 1) = true) := bne_iff_ne.2 z1
  have q2 : Hid ((z == 2) = false) := beq_eq_false_iff_ne.2 z2
  have q3 : Hid ((z == 3) = false) := beq_eq_false_iff_ne.2 z3
  clear z1 z2 z3
  go_enter Tryz.func8, Tryz.ntmps8
  go_wp2_with fail
  refine (kind0 _ z q1.out q1'.out q2.out q3.out).mono ?_
  rintro e w1 ⟨rfl, hB1⟩
  have B1 : Hid (Below w.heap.size w (w1.alloc (.cells #[.int .i64 0, .slice none 0 0, .slice none 0 0] 41))) := hB1.trans ((nB _ _).mono hB1.size)
  clear hB1
  go_wp2_with fail
  exact bodyPost_ret (v := .tuple #[.string ⟨#[]⟩, .int .i64 1]) (by simp [results, Tryz.results8, go_sem]) rfl ⟨rfl, B1.out⟩
set_option maxHeartbeats 2000000 in
theorem ref10_none {w : World} {z : Int} (z1 : z ≠ 1) (z2 : z ≠ 2) (z3 : z ≠ 3) {a b : Option Addr} {n m c d : Nat} :
    Calls Tryz.prog 10 #[.int .i64 z, .slice a n c, .slice b m d] w fun e w' => e = .returned (.tuple #[.string ⟨#[]⟩, .int .i64 1]) ∧ Below w.heap.size w w' := by
  have q1 : Hid ((z == 1) = false) := beq_eq_false_iff_ne.2 z1
  have q1' : Hid ((z != 1) = true) := bne_iff_ne.2 z1
  have q2 : Hid ((z == 2) = false) := beq_eq_false_iff_ne.2 z2
  have q3 : Hid ((z == 3) = false) := beq_eq_false_iff_ne.2 z3
  clear z1 z2 z3
  go_enter Tryz.func10, Tryz.ntmps10
  go_wp2_with fail
  refine (kind0 _ z q1.out q1'.out q2.out q3.out).mono ?_
  rintro e w1 ⟨rfl, hB1⟩
  have B1 : Hid (Below w.heap.size w (w1.alloc (.cells #[.int .i64 0, .slice none 0 0, .slice none 0 0] 41))) := hB1.trans ((nB _ _).mono hB1.size)
  clear hB1
  go_wp2_with fail
  exact bodyPost_ret (v := .tuple #[.string ⟨#[]⟩, .int .i64 1]) (by simp [results, Tryz.results10, go_sem]) rfl ⟨rfl, B1.out⟩
end Go.Proofs.YtlimogamjgehjaaGreat
namespace Go.Proofs.YtlimogamjgehjaaGreat
open Go.RowKit Go.Deep Go.PlainAid

def wts (S M : Nat) (P : List Int) : List ByteArray := P.map fun here => wt S M P here 0
theorem wts_len (S M : Nat) (P : List Int) : (wts S M P).length = P.length := by simp [wts]
theorem wts_at {S M : Nat} {P : List Int} {i : Nat} (h : i < P.length) (h' : i < (wts S M P).length) : (wts S M P)[i] = wt S M P P[i] 0 := by simp [wts]
theorem tx_at {l : List ByteArray} {i : Nat} (h : i < l.length) : tx l i = l[i] := by simp [tx, h]
theorem code_ok {S M : Nat} : ∀ (xs ns : List ByteArray), xs.all (isEl S M) = true → ns.all (isSc S M) = true → code S M xs ns = 0
  | [], ns, _, _ => by simp [code]
  | x :: xs, [], _, _ => by simp [code]
  | x :: xs, n :: ns, h1, h2 => by
    simp only [List.all_cons, Bool.and_eq_true] at h1 h2
    rw [code, if_pos h1.1, if_pos h2.1]
    exact code_ok xs ns h1.2 h2.2
section
variable {z : Int} {G : Array Value} {S Wd M low one sq Ri Wd2 M2 low2 one2 sq2 Ri2 : Nat}
set_option maxHeartbeats 4000000 in
theorem ref5_B (k : KD z G S Wd M low one sq Ri Wd2 M2 low2 one2 sq2 Ri2) (hM : 641 ≤ M) {P : List Int} (h0 : P.length ≠ 0) (h16 : P.length ≤ 16) (hP : ∀ y ∈ P, 0 ≤ y ∧ y ≤ 255) (hpw : P.Pairwise (· ≠ ·)) {w : World} {a : Option Addr} {c : Nat} (ia : IL w a P) (C14 : ∀ V, Below w.heap.size w V → Calls Tryz.prog 14 #[.slice a P.length c] V fun e w' => e = .returned (.int .i64 0) ∧ Below V.heap.size V w') :
    Calls Tryz.prog 5 #[.int .i64 z, .slice a P.length c] w fun e w' => (∃ a' c', e = .returned (.tuple #[.slice a' P.length c', .int .i64 0]) ∧ SL w' a' (wts S M P)) ∧ Below w.heap.size w w' := by
  have CW : Hid (∀ i (hi : i < P.length) V qa ql qc pa pl pc, Below w.heap.size w V → NumV V 65536 M (.slice qa ql qc) → NumV V 65536 M2 (.slice pa pl pc) → Calls Tryz.prog 16 #[.agg #[.int .i64 (S : Int), .slice qa ql qc, .slice pa pl pc], .slice a P.length c, .int .i64 (i : Int), .int .i64 0] V fun e w' => (∃ v, e = .returned v ∧ NumV w' 65536 (numS (wt S M P P[i] 0)) v) ∧ Below V.heap.size V w') := fun i hi V qa ql qc pa pl pc hV n1 n2 => weight16 k hM h16 hP hpw (ia.of_below hV) hi (x := 0) (by omega) n1 n2
  have H14 : Hid _ := C14
  have WL : Hid (∀ here : Int, isSc S M (wt S M P here 0) = true) := fun here => wt_sc k.sz hM P here _
  have HX : Hid ((wts S M P).length = P.length) := wts_len S M P
  clear C14 hP hpw ia
  have hS0 := k.hS0
  go_enter Tryz.func5, Tryz.ntmps5
  go_wp2_with fail
  refine (k.K9 _).mono ?_
  rintro e w1 ⟨⟨u1, u2, rfl, n1, n2⟩, hB1⟩
  obtain ⟨qa, ql, qc, rfl⟩ := sN (show Hid (NumV w1 65536 M u1) from n1)
  obtain ⟨pa, pl, pc, rfl⟩ := sN (show Hid (NumV w1 65536 M2 u2) from n2)
  obtain ⟨U, hU⟩ : ∃ U, w1.alloc (.cells #[.int .i64 (S : Int), .slice qa ql qc, .slice pa pl pc] 41) = U := ⟨_, rfl⟩
  have B1 : Hid (Below w.heap.size w U) := by rw [← hU]; exact hB1.trans ((nB _ _).mono hB1.size)
  have N1 : Hid (NumV U 65536 M (.slice qa ql qc)) := by rw [← hU]; exact n1.of_below (nB _ _)
  have N2 : Hid (NumV U 65536 M2 (.slice pa pl pc)) := by rw [← hU]; exact n2.of_below (nB _ _)
  have J0 : Hid (IHolds U w1.heap.size 41 [.int .i64 (S : Int), .slice qa ql qc, .slice pa pl pc]) := by rw [← hU]; exact IHolds.new' w1 41 [.int .i64 (S : Int), .slice qa ql qc, .slice pa pl pc] rfl
  have KC : Hid (∀ V, Below U.heap.size U V → V.cell? ⟨w1.heap.size, 0, none⟩ = some (.int .i64 (S : Int)) ∧ V.cell? ⟨w1.heap.size, 1, none⟩ = some (.slice qa ql qc) ∧ V.cell? ⟨w1.heap.size, 2, none⟩ = some (.slice pa pl pc)) := fun V hV => ⟨cell_keep (J0.out.cell 0 (by simp)) hV, cell_keep (J0.out.cell 1 (by simp)) hV, cell_keep (J0.out.cell 2 (by simp)) hV⟩
  have NB : Hid (∀ V, Below U.heap.size U V → NumV V 65536 M (.slice qa ql qc) ∧ NumV V 65536 M2 (.slice pa pl pc)) := fun V hV => ⟨N1.out.of_below hV, N2.out.of_below hV⟩
  have sB : Hid (∀ V V', Below V.heap.size V V' → Below U.heap.size U V → Below U.heap.size U V') := fun V V' h h' => h'.trans (h.mono h'.size)
  clear n1 n2 hB1
  obtain ⟨y0, y1, y2⟩ := KC.out U (Below.refl _ _)
  go_wp2_with (first
    | (go_at_call 14; refine (H14.out _ (B1.out.trans ((Below.refl U.heap.size U).mono B1.out.size))).mono ?_; rintro e v14 ⟨rfl, hB14⟩; have D14 : Hid (Below U.heap.size U v14) := hB14; obtain ⟨y0, y1, y2⟩ := KC.out v14 hB14; clear hB14 H14)
    | fail)
  clear y0 y1 y2
  obtain ⟨i0, hi0, hzz⟩ := Option.map_eq_some_iff.1 Tryz.info9'
  simp only [Prod.mk.injEq] at hzz
  obtain ⟨hz0, hz1, hz2⟩ := hzz
  go_loopg [8, 9, 22] P.length (fun gk v8 v9 v22 wr => ∃ (i : Nat) (v : Value), i + gk = P.length ∧ v = v8 ∧ v22 = .int .i64 (i : Int) ∧ Below v14.heap.size v14 wr ∧ wr.ownsRow v14.heap.size 9 1 v i (((wts S M P).take i).map Value.string))
  case atStart => exact ⟨0, _, by omega, rfl, rfl, Below.refl _ _, World.ownsRow_nil _ _ _ _⟩
  case round =>
    obtain ⟨i, v, hig, rfl, rfl, hB, hO⟩ := hrel
    have B : Hid (Below v14.heap.size v14 wr) := hB
    have BU : Hid (Below U.heap.size U wr) := D14.out.trans (hB.mono D14.out.size)
    have HO : Hid (wr.ownsRow v14.heap.size 9 1 v i (((wts S M P).take i).map Value.string)) := hO
    clear hB hO
    by_cases hi : i < P.length
    · have il : (i : Int) < (P.length : Int) := by omega
      have hi2 : i < (wts S M P).length := by have := HX.out; omega
      have HR : Hid (((wts S M P).take (i + 1)).map Value.string = ((wts S M P).take i).map Value.string ++ [Value.string (wt S M P P[i] 0)]) := by
        show _ = _
        rw [List.take_succ_eq_append_getElem hi2, List.map_append, wts_at hi hi2]; rfl
      have RW : Hid (∀ V, Below v14.heap.size v14 V → Calls Tryz.prog 16 #[.agg #[.int .i64 (S : Int), .slice qa ql qc, .slice pa pl pc], .slice a P.length c, .int .i64 (i : Int), .int .i64 0] V fun e w' => (∃ v, e = .returned v ∧ NumV w' 65536 (numS (wt S M P P[i] 0)) v) ∧ Below V.heap.size V w') := fun V hV => CW.out i hi V qa ql qc pa pl pc (B1.out.trans ((D14.out.trans (hV.mono D14.out.size)).mono B1.out.size)) (NB.out V (D14.out.trans (hV.mono D14.out.size))).1 (NB.out V (D14.out.trans (hV.mono D14.out.size))).2
      have ws := WL.out P[i]
      have RT : Hid (∀ V va, NumV V 65536 (numS (wt S M P P[i] 0)) va → Calls Tryz.prog 15 #[va, .int .i64 (S : Int)] V fun e w' => e = .returned (.string (wt S M P P[i] 0)) ∧ Below V.heap.size V w') := fun V va ha => by
        have q := refTextV (S := S) ha (lenD (Nat.le_of_lt (isSc_lt ws)) k.l5) (by have := k.hS; omega)
        have e := TX_numS (isSc_size ws)
        unfold TX at e
        rw [e] at q
        exact q
      clear ws
      generalize wt S M P P[i] 0 = T at *
      have KP : Hid (∀ V, Below v14.heap.size v14 V → (Below v14.heap.size v14 V ∧ V.cell? ⟨w1.heap.size, 0, none⟩ = some (.int .i64 (S : Int)) ∧ V.cell? ⟨w1.heap.size, 1, none⟩ = some (.slice qa ql qc) ∧ V.cell? ⟨w1.heap.size, 2, none⟩ = some (.slice pa pl pc))) := fun V hV => ⟨hV, KC.out V (D14.out.trans (hV.mono D14.out.size))⟩
      have sC : Hid (∀ V V', Below V.heap.size V V' → Below v14.heap.size v14 V → Below v14.heap.size v14 V') := fun V V' h h' => h'.trans (h.mono h'.size)
      have sA : Hid (∀ V o, Below v14.heap.size v14 V → Below v14.heap.size v14 (V.alloc o)) := fun V o h => h.alloc h.size o
      have HNi : Hid (i + 1 ≤ 16) := by show _ ≤ _; omega
      go_wp2_with fail
      go_region_held3 (fun V => Below v14.heap.size v14 V ∧ V.cell? ⟨w1.heap.size, 0, none⟩ = some (.int .i64 (S : Int)) ∧ V.cell? ⟨w1.heap.size, 1, none⟩ = some (.slice qa ql qc) ∧ V.cell? ⟨w1.heap.size, 2, none⟩ = some (.slice pa pl pc))
        (first | exact KP.out _ B.out.drew | assumption | exact KP.out _ B16.out | exact KP.out _ B15.out | exact KP.out _ B7.out | exact KP.out _ B6.out | fail)
        (first
          | (go_at_call 16; refine (RW.out _ B.out.drew).mono ?_; rintro e w6 ⟨⟨r6, rfl, n6⟩, hB6⟩; have B6 : Hid (Below v14.heap.size v14 w6) := sC.out _ _ hB6 B.out.drew; have M6 : Hid (NumV w6 65536 (numS T) r6) := n6; replace HO : Hid (w6.ownsRow v14.heap.size 9 1 v i (((wts S M P).take i).map Value.string)) := own_below (w := wr.drew) HO.out hB6; clear n6 RW)
          | (go_at_call 15; refine (RT.out _ _ M6.out).mono ?_; rintro e w7 ⟨rfl, hB7⟩; have B7 : Hid (Below v14.heap.size v14 w7) := sC.out _ _ hB7 B6.out; have B15 : Hid (Below v14.heap.size v14 (w7.alloc (.cells #[.string T] 9))) := sA.out _ _ B7.out; have HO15 : Hid ((w7.alloc (.cells #[.string T] 9)).ownsRow v14.heap.size 9 1 v i (((wts S M P).take i).map Value.string)) := (own_below HO.out hB7).alloc _; have HC15 : Hid (∀ jj u, [Value.string T][jj]? = some u → (w7.alloc (.cells #[.string T] 9)).cell? ((⟨w7.heap.size, 0, none⟩ : Addr).add jj) = some u) := one_news w7 T; clear RT)
          | (refine step_append_lies _ (by rfl) (.tmp 25) (.tmp 33) 23 (by rfl) v14.heap.size 9 i0 (.string ⟨#[]⟩) 1 16 Tryz.under23 hi0 hz0 hz1 hz2 rfl (by decide) v i (((wts S M P).take i).map Value.string) (by rfl) HO15.out ⟨w7.heap.size, 0, none⟩ 1 1 [.string T] (by rfl) rfl HC15.out (fun u hu => by simp at hu; subst hu; rfl) (by omega) (by have := HNi.out; unfold maxLen; omega) (by have := HNi.out; omega) B15.out.size _ rfl ?_; intro g cap w16 hown hgrow hat hlt; have HO16 : Hid (w16.ownsRow v14.heap.size 9 1 (.slice (some ⟨g, 0, none⟩) (i + 1) cap) (i + 1) (((wts S M P).take i).map Value.string ++ [Value.string T])) := hown; have B16 : Hid (Below v14.heap.size v14 w16) := B15.out.grown hgrow B15.out.size (fun k hk => (HO15.out.lt k hk).1); clear hown hgrow hat hlt)
          | fail)
      go_wp2_with fail
      go_roundg (gk - 1)
      case measure => omega
      case rel => exact ⟨i + 1, _, by omega, rfl, by go_num, B16.out, by rw [HR.out]; exact HO16.out⟩
    have il : ¬ (i : Int) < (P.length : Int) := by omega
    have HF : Hid (∃ a' c', v = .slice a' P.length c' ∧ SL wr a' (wts S M P)) := by
      have h := HO.out
      rw [show i = P.length by omega, List.take_of_length_le (Nat.le_of_eq HX.out)] at h
      exact own_sl HX.out h
    clear HO
    obtain ⟨a', c', rfl, hsl⟩ := HF.out
    have HSL : Hid (SL wr a' (wts S M P)) := hsl
    clear hsl HF
    go_wp2_with fail
    exact bodyPost_ret (v := .tuple #[.slice a' P.length c', .int .i64 0]) (by simp [results, Tryz.results5, go_sem]) rfl ⟨by first | exact ⟨_, _, rfl, HSL.out⟩ | exact ⟨_, ⟨_, rfl⟩, HSL.out⟩, B1.out.trans (BU.out.mono B1.out.size)⟩
/-- What lies together: its code, its text. -/
def togC (S M : Nat) (L : List ByteArray) : Int := if L.all (isEl S M) = true then 0 else 7
def togT (S M M2 : Nat) (P : List Int) (L : List ByteArray) : ByteArray := if L.all (isEl S M) = true then TX S (sgn M M2 (powP (nums L) (nums (wts S M P)) L.length % M2)) else ⟨#[]⟩
set_option maxHeartbeats 4000000 in
theorem ref10_C (k : KD z G S Wd M low one sq Ri Wd2 M2 low2 one2 sq2 Ri2) (hM : 641 ≤ M) {P : List Int} (h0 : P.length ≠ 0) (h16 : P.length ≤ 16) (hP : ∀ y ∈ P, 0 ≤ y ∧ y ≤ 255) (hpw : P.Pairwise (· ≠ ·)) {w : World} {a b : Option Addr} {c d : Nat} (ia : IL w a P) {L : List ByteArray} (hL : L.length = P.length) (ib : SL w b L) (C14 : ∀ V, Below w.heap.size w V → Calls Tryz.prog 14 #[.slice a P.length c] V fun e w' => e = .returned (.int .i64 0) ∧ Below V.heap.size V w') :
    Calls Tryz.prog 10 #[.int .i64 z, .slice a P.length c, .slice b P.length d] w fun e w' => e = .returned (.tuple #[.string (togT S M M2 P L), .int .i64 (togC S M L)]) ∧ Below w.heap.size w w' := by
  have CW : Hid (∀ i (hi : i < P.length) V qa ql qc pa pl pc, Below w.heap.size w V → NumV V 65536 M (.slice qa ql qc) → NumV V 65536 M2 (.slice pa pl pc) → Calls Tryz.prog 16 #[.agg #[.int .i64 (S : Int), .slice qa ql qc, .slice pa pl pc], .slice a P.length c, .int .i64 (i : Int), .int .i64 0] V fun e w' => (∃ v, e = .returned v ∧ NumV w' 65536 (numS (wt S M P P[i] 0)) v) ∧ Below V.heap.size V w') := fun i hi V qa ql qc pa pl pc hV n1 n2 => weight16 k hM h16 hP hpw (ia.of_below hV) hi (x := 0) (by omega) n1 n2
  have H14 : Hid _ := C14
  have HS : Hid (SL w b L) := ib
  have WL : Hid (∀ here : Int, numS (wt S M P here 0) ≤ M) := fun here => Nat.le_of_lt (isSc_lt (wt_sc k.sz hM P here _))
  have HE : Hid (L.length = P.length) := hL
  have m21 := k.m21
  have hM2 := k.m2
  have ne0 : ((P.length : Int) != (P.length : Int)) = false := by simp
  obtain ⟨ff, hff⟩ : ∃ ff : Nat → Nat, ff = fun i => sgn M M2 (powP (nums L) (nums (wts S M P)) i % M2) := ⟨_, rfl⟩
  have F0 : Hid (ff 0 = 1) := by rw [hff]; exact sgn_one m21 (by omega) _ _
  have FL : Hid (∀ i, ff i ≤ M) := fun i => by rw [hff]; exact sgn_le m21 (k.mod2 _)
  have FS : Hid (∀ i (h1 : i < L.length) (h2 : i < P.length), sgn M M2 (ff i * sgn M M2 (numS L[i] ^ numS (wt S M P P[i] 0) % M2) % M2) = ff (i + 1)) := fun i h1 h2 => by
    have e1 : (nums L).getD i 0 = numS L[i] := by rw [nums_getD L i h1, tx_at h1]
    have e2 : (nums (wts S M P)).getD i 0 = numS (wt S M P P[i] 0) := by rw [nums_getD _ i (by rw [wts_len]; exact h2), tx_at (by rw [wts_len]; exact h2), wts_at h2]
    have q := sgn_prod m21 (by omega) (nums L) (nums (wts S M P)) i
    rw [e1, e2] at q
    rw [hff]
    exact q
  have TT : Hid (L.all (isEl S M) = true → togT S M M2 P L = TX S (ff P.length) ∧ togC S M L = 0) := fun h => by
    unfold togT togC
    rw [if_pos h, if_pos h, hff, hL]
    exact ⟨rfl, rfl⟩
  have TN : Hid (L.all (isEl S M) = false → togT S M M2 P L = ⟨#[]⟩ ∧ togC S M L = 7) := fun h => by
    unfold togT togC
    rw [h, if_neg (by decide), if_neg (by decide)]
    exact ⟨rfl, rfl⟩
  generalize togT S M M2 P L = RT0 at *
  generalize togC S M L = RC0 at *
  clear hff C14 hP hpw ia hL ib
  have hS0 := k.hS0
  go_enter Tryz.func10, Tryz.ntmps10
  go_wp2_with fail
  refine (k.K9 _).mono ?_
  rintro e w1 ⟨⟨u1, u2, rfl, n1, n2⟩, hB1⟩
  obtain ⟨qa, ql, qc, rfl⟩ := sN (show Hid (NumV w1 65536 M u1) from n1)
  obtain ⟨pa, pl, pc, rfl⟩ := sN (show Hid (NumV w1 65536 M2 u2) from n2)
  obtain ⟨U, hU⟩ : ∃ U, w1.alloc (.cells #[.int .i64 (S : Int), .slice qa ql qc, .slice pa pl pc] 41) = U := ⟨_, rfl⟩
  have B1 : Hid (Below w.heap.size w U) := by rw [← hU]; exact hB1.trans ((nB _ _).mono hB1.size)
  have N1 : Hid (NumV U 65536 M (.slice qa ql qc)) := by rw [← hU]; exact n1.of_below (nB _ _)
  have N2 : Hid (NumV U 65536 M2 (.slice pa pl pc)) := by rw [← hU]; exact n2.of_below (nB _ _)
  have J0 : Hid (IHolds U w1.heap.size 41 [.int .i64 (S : Int), .slice qa ql qc, .slice pa pl pc]) := by rw [← hU]; exact IHolds.new' w1 41 [.int .i64 (S : Int), .slice qa ql qc, .slice pa pl pc] rfl
  have KC : Hid (∀ V, Below U.heap.size U V → V.cell? ⟨w1.heap.size, 0, none⟩ = some (.int .i64 (S : Int)) ∧ V.cell? ⟨w1.heap.size, 1, none⟩ = some (.slice qa ql qc) ∧ V.cell? ⟨w1.heap.size, 2, none⟩ = some (.slice pa pl pc)) := fun V hV => ⟨cell_keep (J0.out.cell 0 (by simp)) hV, cell_keep (J0.out.cell 1 (by simp)) hV, cell_keep (J0.out.cell 2 (by simp)) hV⟩
  have NB : Hid (∀ V, Below U.heap.size U V → NumV V 65536 M (.slice qa ql qc) ∧ NumV V 65536 M2 (.slice pa pl pc)) := fun V hV => ⟨N1.out.of_below hV, N2.out.of_below hV⟩
  have sB : Hid (∀ V V', Below V.heap.size V V' → Below U.heap.size U V → Below U.heap.size U V') := fun V V' h h' => h'.trans (h.mono h'.size)
  clear n1 n2 hB1
  obtain ⟨y0, y1, y2⟩ := KC.out U (Below.refl _ _)
  have O1 : Hid (∀ V, Calls Tryz.prog 24 #[.int .i64 1] V fun e w' => (∃ v, e = .returned v ∧ NumV w' 65536 1 v) ∧ Below V.heap.size V w') := fun V => of_any V 1 (by decide)
  go_wp2_with (first
    | (go_at_call 14; refine (H14.out _ (B1.out.trans ((Below.refl U.heap.size U).mono B1.out.size))).mono ?_; rintro e v14 ⟨rfl, hB14⟩; have D14 : Hid (Below U.heap.size U v14) := hB14; obtain ⟨y0, y1, y2⟩ := KC.out v14 hB14; clear hB14 H14)
    | (go_at_call 24; refine (O1.out _).mono ?_; rintro e w6 ⟨⟨r6, rfl, n6⟩, hB6⟩; have B6 : Hid (Below U.heap.size U w6) := sB.out _ _ hB6 D14.out; have M6 : Hid (NumV w6 65536 1 r6) := n6; clear n6 hB6 O1)
    | fail)
  clear y0 y1 y2
  go_loopg [10, 11, 12, 31] P.length (fun gk v10 v11 v12 v31 wr => ∃ (i : Nat) (u : Value), i + gk = P.length ∧ u = v10 ∧ v31 = .int .i64 (i : Int) ∧ Below U.heap.size U wr ∧ NumV wr 65536 (ff i) u ∧ (L.take i).all (isEl S M) = true)
  case atStart => exact ⟨0, _, by omega, rfl, rfl, B6.out, by rw [F0.out]; exact M6.out, by simp⟩
  case round =>
    obtain ⟨i, u, hig, rfl, rfl, hB, hu, hn⟩ := hrel
    have B : Hid (Below U.heap.size U wr) := hB
    obtain ⟨ua, ul, uc, rfl⟩ := sN (show Hid (NumV wr 65536 _ u) from hu)
    have NU : Hid (NumV wr 65536 (ff i) (.slice ua ul uc)) := hu
    have HN : Hid ((L.take i).all (isEl S M) = true) := hn
    clear hB hu hn
    obtain ⟨y0, y1, y2⟩ := KC.out wr B.out
    by_cases hi : i < P.length
    · have il : (i : Int) < (P.length : Int) := by omega
      have hi2 : i < L.length := by have := HE.out; omega
      obtain ⟨b1, o1, rfl, hcl⟩ := (HS.out.of_below B1.out).of_below B.out i hi2
      have HT : Hid _ := all_take (isEl S M) hi2
      have HO : Hid _ := all_not (isEl S M) hi2
      have fs : Hid _ := FS.out i hi2 hi
      have RW : Hid (∀ V, Below U.heap.size U V → Calls Tryz.prog 16 #[.agg #[.int .i64 (S : Int), .slice qa ql qc, .slice pa pl pc], .slice a P.length c, .int .i64 (i : Int), .int .i64 0] V fun e w' => (∃ v, e = .returned v ∧ NumV w' 65536 (numS (wt S M P P[i] 0)) v) ∧ Below V.heap.size V w') := fun V hV => CW.out i hi V qa ql qc pa pl pc (B1.out.trans (hV.mono B1.out.size)) (NB.out V hV).1 (NB.out V hV).2
      have wl : Hid (numS (wt S M P P[i] 0) ≤ M) := WL.out _
      have fl := FL.out i
      have CE : Hid (∀ V, Below U.heap.size U V → Calls Tryz.prog 25 #[.agg #[.int .i64 (S : Int), .slice qa ql qc, .slice pa pl pc], .string L[i]] V fun e w' => e = .returned (.bool (isEl S M L[i])) ∧ Below V.heap.size V w') := fun V hV => isElemV (NB.out V hV).1 (NB.out V hV).2 L[i] k.hS k.l6
      generalize L[i] = s at *
      generalize numS (wt S M P P[i] 0) = ww at *
      cases hp : isEl S M s with
      | false =>
        rw [hp] at CE
        have TF : Hid _ := TN.out (HO.out hp)
        go_wp2_with (first
          | (go_at_call 25; refine (CE.out _ B.out).mono ?_; rintro e w8 ⟨rfl, hB8⟩; have B8 : Hid (Below U.heap.size U w8) := sB.out _ _ hB8 B.out; clear hB8 CE)
          | fail)
        exact bodyPost_ret (v := .tuple #[.string ⟨#[]⟩, .int .i64 7]) (by simp [results, Tryz.results10, go_sem]) rfl ⟨by rw [TF.out.1, TF.out.2], B1.out.trans (B8.out.mono B1.out.size)⟩
      | true =>
        rw [hp] at CE
        have pe := k.el hp
        have RX : Hid (∀ V, Calls Tryz.prog 28 #[.string s] V fun e w' => (∃ v, e = .returned v ∧ NumV w' 65536 (numS s) v) ∧ Below V.heap.size V w') := fun V => read_small (isEl_size hp) k.hS V
        generalize numS s = ns at *
        have RP : Hid (∀ V va vb, Below U.heap.size U V → NumV V 65536 ns va → NumV V 65536 ww vb → Calls Tryz.prog 27 #[.agg #[.int .i64 (S : Int), .slice qa ql qc, .slice pa pl pc], va, vb] V fun e w' => (∃ v, e = .returned v ∧ NumV w' 65536 (sgn M M2 (ns ^ ww % M2)) v) ∧ Below V.heap.size V w') := fun V va vb hV ha hb => powerEV k (NB.out V hV).1 (NB.out V hV).2 ha hb pe wl.out
        have RQ : Hid (∀ V vb, Below U.heap.size U V → NumV V 65536 (ff i) (.slice ua ul uc) → NumV V 65536 (sgn M M2 (ns ^ ww % M2)) vb → Calls Tryz.prog 26 #[.agg #[.int .i64 (S : Int), .slice qa ql qc, .slice pa pl pc], .slice ua ul uc, vb] V fun e w' => (∃ v, e = .returned v ∧ NumV w' 65536 (ff (i + 1)) v) ∧ Below V.heap.size V w') := fun V vb hV ha hb => by
          have q := productV k (NB.out V hV).1 (NB.out V hV).2 ha hb (by omega) (by have := sgn_le m21 (k.mod2 (ns ^ ww)); omega)
          rw [fs.out] at q
          exact q
        generalize sgn M M2 (ns ^ ww % M2) = e3 at *
        generalize hg1 : ff (i + 1) = g1 at *
        have HG1 : Hid (ff (i + 1) = g1) := hg1
        clear hg1
        generalize ff i = g0 at *
        clear fl pe
        go_wp2_with (first
          | (go_at_call 25; refine (CE.out _ B.out).mono ?_; rintro e w8 ⟨rfl, hB8⟩; have B8 : Hid (Below U.heap.size U w8) := sB.out _ _ hB8 B.out; replace NU : Hid (NumV w8 65536 g0 (.slice ua ul uc)) := NU.out.of_below hB8; clear hB8 CE)
          | fail)
        have KP : Hid (∀ V, Below U.heap.size U V → (Below U.heap.size U V ∧ V.cell? ⟨w1.heap.size, 0, none⟩ = some (.int .i64 (S : Int)) ∧ V.cell? ⟨w1.heap.size, 1, none⟩ = some (.slice qa ql qc) ∧ V.cell? ⟨w1.heap.size, 2, none⟩ = some (.slice pa pl pc))) := fun V hV => ⟨hV, KC.out V hV⟩
        clear y0 y1 y2 hcl
        go_region_held3 (fun V => Below U.heap.size U V ∧ V.cell? ⟨w1.heap.size, 0, none⟩ = some (.int .i64 (S : Int)) ∧ V.cell? ⟨w1.heap.size, 1, none⟩ = some (.slice qa ql qc) ∧ V.cell? ⟨w1.heap.size, 2, none⟩ = some (.slice pa pl pc))
          (first | exact KP.out _ B8.out.drew | assumption | exact KP.out _ B12.out | exact KP.out _ B11.out | exact KP.out _ B10.out | exact KP.out _ B9.out | fail)
          (first
            | (go_at_call 28; refine (RX.out _).mono ?_; rintro e w9 ⟨⟨r9, rfl, n9⟩, hB9⟩; have B9 : Hid (Below U.heap.size U w9) := sB.out _ _ hB9 B8.out.drew; have M9 : Hid (NumV w9 65536 ns r9) := n9; replace NU : Hid (NumV w9 65536 g0 (.slice ua ul uc)) := (NU.out.of_below (dB _)).of_below hB9; clear n9 RX)
            | (go_at_call 16; refine (RW.out _ B9.out).mono ?_; rintro e w10 ⟨⟨r10, rfl, n10⟩, hB10⟩; have B10 : Hid (Below U.heap.size U w10) := sB.out _ _ hB10 B9.out; have M10 : Hid (NumV w10 65536 ww r10) := n10; replace M9 : Hid (NumV w10 65536 ns r9) := M9.out.of_below hB10; replace NU : Hid (NumV w10 65536 g0 (.slice ua ul uc)) := NU.out.of_below hB10; clear n10 RW)
            | (go_at_call 27; refine (RP.out _ _ _ B10.out M9.out M10.out).mono ?_; rintro e w11 ⟨⟨r11, rfl, n11⟩, hB11⟩; have B11 : Hid (Below U.heap.size U w11) := sB.out _ _ hB11 B10.out; have M11 : Hid (NumV w11 65536 e3 r11) := n11; replace NU : Hid (NumV w11 65536 g0 (.slice ua ul uc)) := NU.out.of_below hB11; clear n11 RP)
            | (go_at_call 26; refine (RQ.out _ _ B11.out NU.out M11.out).mono ?_; rintro e w12 ⟨⟨r12, rfl, n12⟩, hB12⟩; have B12 : Hid (Below U.heap.size U w12) := sB.out _ _ hB12 B11.out; have M12 : Hid (NumV w12 65536 g1 r12) := n12; clear n12 RQ)
            | fail)
        go_wp2_with fail
        go_roundg (gk - 1)
        case measure => omega
        case rel => exact ⟨i + 1, _, by omega, rfl, by go_num, B12.out, by rw [HG1.out]; exact M12.out, by rw [HT.out, HN.out, hp]; rfl⟩
    have il : ¬ (i : Int) < (P.length : Int) := by omega
    have HA : Hid (L.all (isEl S M) = true) := by have h := HN.out; rw [List.take_of_length_le (by have := HE.out; omega)] at h; exact h
    have TF : Hid _ := TT.out HA.out
    have ei : i = P.length := by omega
    rw [ei] at NU
    have RT : Hid (∀ V va, NumV V 65536 (ff P.length) va → Calls Tryz.prog 15 #[va, .int .i64 (S : Int)] V fun e w' => e = .returned (.string (TX S (ff P.length))) ∧ Below V.heap.size V w') := fun V va ha => refTextV (S := S) ha (lenD (FL.out _) k.l5) (by have := k.hS; omega)
    clear ei
    go_wp2_with (first
      | (go_at_call 15; refine (RT.out _ _ NU.out).mono ?_; rintro e w8 ⟨rfl, hB8⟩; have B8 : Hid (Below U.heap.size U w8) := sB.out _ _ hB8 B.out; clear hB8)
      | fail)
    exact bodyPost_ret (v := .tuple #[.string (TX S (ff P.length)), .int .i64 0]) (by simp [results, Tryz.results10, go_sem]) rfl ⟨by rw [TF.out.1, TF.out.2], B1.out.trans (B8.out.mono B1.out.size)⟩
end
end Go.Proofs.YtlimogamjgehjaaGreat
namespace Go.Proofs.YtlimogamjgehjaaGreat
open Go.RowKit Go.Deep Go.PlainAid

theorem noElem13 {w : World} {z : Int} {s : ByteArray} {q : Bool} (h : Hid (∀ W, Calls Tryz.prog 63 #[.int .i64 z, .string s] W fun e w' => e = .returned (.bool q) ∧ Below W.heap.size W w')) :
    Calls Tryz.prog 46 #[.agg #[.int .i64 z], .string s] w fun e w' => e = .returned (.bool (!q)) ∧ Below w.heap.size w w' := by
  have J : Hid (Below w.heap.size w (w.alloc (.cells #[.int .i64 z] 33))) := (Below.refl _ w).alloc (Nat.le_refl _) _
  go_enter Tryz.func46, Tryz.ntmps46
  go_wp2_with (go_at_call 63; refine (h.out _).mono ?_; rintro e w1 ⟨rfl, hB1⟩)
  go_ret
  exact ⟨rfl, J.out.trans (hB1.mono J.out.size)⟩
theorem wrongE_len {w : World} {z : Int} {a b : Option Addr} {n m c d : Nat} (h : ((m : Int) != (n : Int)) = true) :
    Calls Tryz.prog 22 #[.agg #[.int .i64 z, .slice a n c], .slice b m d] w fun e w' => e = .returned (.int .i64 2) ∧ Below w.heap.size w w' := by
  have J : Hid (Below w.heap.size w (w.alloc (.cells #[.int .i64 z, .slice a n c] 35))) := (Below.refl _ w).alloc (Nat.le_refl _) _
  go_enter Tryz.func22, Tryz.ntmps22
  go_wp2_with fail
  go_ret
  exact ⟨rfl, J.out⟩
theorem wrongE {w : World} {z : Int} {a b : Option Addr} {n c d : Nat} {t : Bool} (h : ∀ W, Below w.heap.size w W → Calls Tryz.prog 39 #[.slice b n d, .func (.func 46) #[.agg #[.int .i64 z]] #[]] W fun e w' => e = .returned (.bool t) ∧ Below W.heap.size W w') :
    Calls Tryz.prog 22 #[.agg #[.int .i64 z, .slice a n c], .slice b n d] w fun e w' => e = .returned (.int .i64 (if t then 7 else 0)) ∧ Below w.heap.size w w' := by
  have J : Hid (Below w.heap.size w (w.alloc (.cells #[.int .i64 z, .slice a n c] 35))) := (Below.refl _ w).alloc (Nat.le_refl _) _
  have H : Hid _ := h
  have hmf := hmfun
  have k2 : ((n : Int) != (n : Int)) = false := by simp
  clear h
  cases t with
  | true =>
    go_enter Tryz.func22, Tryz.ntmps22
    go_wp2_with (go_at_call 39; refine (H.out _ J.out).mono ?_; rintro e w1 ⟨rfl, hB1⟩)
    go_ret
    exact ⟨rfl, J.out.trans (hB1.mono J.out.size)⟩
  | false =>
    go_enter Tryz.func22, Tryz.ntmps22
    go_wp2_with (go_at_call 39; refine (H.out _ J.out).mono ?_; rintro e w1 ⟨rfl, hB1⟩)
    go_ret
    exact ⟨rfl, J.out.trans (hB1.mono J.out.size)⟩
set_option maxHeartbeats 1000000 in
theorem indexE {w : World} {a : Option Addr} {l : List ByteArray} {c : Nat} {z : Int} (p : ByteArray → Bool) (hl : l.length ≤ 9223372036854775807) (hs : SL w a l)
    (CN : ∀ s W, Calls Tryz.prog 46 #[.agg #[.int .i64 z], .string s] W fun e w' => e = .returned (.bool (p s)) ∧ Below W.heap.size W w') :
    Calls Tryz.prog 58 #[.slice a l.length c, .func (.func 46) #[.agg #[.int .i64 z]] #[]] w fun e w' => (∃ r : Int, e = .returned (.int .i64 r) ∧ (decide (0 ≤ r)) = l.any p) ∧ Below w.heap.size w w' := by
  have HS : Hid (SL w a l) := hs
  have HL : Hid (l.length ≤ 9223372036854775807) := hl
  clear hs
  go_enter Tryz.func58, Tryz.ntmps58
  go_wp2_with fail
  go_loopg [5, 8] l.length (fun gk v5 v8 wr => ∃ i : Nat, i + gk = l.length ∧ v8 = .int .i64 (i : Int) ∧ Below w.heap.size w wr ∧ (l.take i).any p = false)
  case atStart => exact ⟨0, by omega, rfl, Below.refl _ _, by simp⟩
  case round =>
    obtain ⟨i, hig, rfl, hB, hn⟩ := hrel
    have B : Hid (Below w.heap.size w wr) := hB
    have HN : Hid ((l.take i).any p = false) := hn
    clear hB hn
    by_cases hi : i < l.length
    · obtain ⟨b, o, rfl, hc⟩ := HS.out.of_below B.out i hi
      have il : (i : Int) < (l.length : Int) := by omega
      have hcall := CN l[i]
      have HT : Hid _ := any_take p hi
      have HO : Hid _ := any_of p hi
      generalize l[i] = s at *
      cases hp : p s with
      | true =>
        rw [hp] at hcall
        go_wp2_with (go_at_call 46; refine (hcall _).mono ?_; rintro e w3 ⟨rfl, hB3⟩)
        go_ret
        exact ⟨⟨_, rfl, by rw [HO.out hp]; simp⟩, B.out.trans (hB3.mono B.out.size)⟩
      | false =>
        rw [hp] at hcall
        go_wp2_with (go_at_call 46; refine (hcall _).mono ?_; rintro e w3 ⟨rfl, hB3⟩)
        go_roundg (gk - 1)
        case measure => omega
        case rel => exact ⟨i + 1, by omega, by go_num, B.out.trans (hB3.mono B.out.size), by rw [HT.out, HN.out, hp]; rfl⟩
    · have il : ¬ (i : Int) < (l.length : Int) := by omega
      have e : i = l.length := by omega
      have hn := HN.out
      rw [e, List.take_length] at hn
      clear e
      go_wp2_with fail
      go_ret
      exact ⟨⟨_, rfl, by first | (rw [hn]; decide) | decide⟩, B.out⟩
theorem containsE {w : World} {a : Option Addr} {l : List ByteArray} {c : Nat} {z : Int} (p : ByteArray → Bool) (hl : l.length ≤ 9223372036854775807) (hs : SL w a l)
    (CN : ∀ s W, Calls Tryz.prog 46 #[.agg #[.int .i64 z], .string s] W fun e w' => e = .returned (.bool (p s)) ∧ Below W.heap.size W w') :
    Calls Tryz.prog 39 #[.slice a l.length c, .func (.func 46) #[.agg #[.int .i64 z]] #[]] w fun e w' => e = .returned (.bool (l.any p)) ∧ Below w.heap.size w w' := by
  have h := indexE (c := c) (z := z) p hl hs CN
  clear hs CN
  generalize l.any p = t at *
  go_enter Tryz.func39, Tryz.ntmps39
  go_wp2_with (go_at_call 58; refine h.mono ?_; rintro e w1 ⟨⟨r, rfl, hr⟩, hB1⟩)
  go_ret
  exact ⟨by rw [← hr]; rfl, hB1⟩
set_option maxHeartbeats 2000000 in
theorem weights4_bad {w : World} {a b : Option Addr} {n m c d : Nat} {z k : Int} (hk : (k == 0) = false) (hk2 : (k != 0) = true) (C11 : ∀ W, Below w.heap.size w W → Calls Tryz.prog 11 #[.int .i64 z, .slice a n c] W fun e w' => e = .returned (.tuple #[.agg #[.int .i64 0, .slice none 0 0], .int .i64 k]) ∧ Below W.heap.size W w') :
    Calls Tryz.prog 4 #[.int .i64 z, .slice a n c] w fun e w' => e = .returned (.tuple #[.slice none 0 0, .int .i64 k]) ∧ Below w.heap.size w w' := by
  have H11 : Hid _ := C11
  clear C11
  go_enter Tryz.func4, Tryz.ntmps4
  go_wp2_with (first
    | (go_at_call 11; refine (H11.out _ (Below.refl _ _)).mono ?_; rintro e w1 ⟨rfl, hB1⟩; have B1 : Hid (Below w.heap.size w (w1.alloc (.cells #[.int .i64 0, .slice none 0 0] 35))) := hB1.alloc hB1.size _; clear hB1 H11)
    | fail)
  exact bodyPost_ret (v := .tuple #[.slice none 0 0, .int .i64 k]) (by simp [results, Tryz.results4, go_sem]) rfl ⟨rfl, B1.out⟩
set_option maxHeartbeats 2000000 in
theorem weights4_ok {w : World} {a b : Option Addr} {n m c d : Nat} {z k : Int} {q : List ByteArray} (C11 : ∀ W, Below w.heap.size w W → Calls Tryz.prog 11 #[.int .i64 z, .slice a n c] W fun e w' => e = .returned (.tuple #[.agg #[.int .i64 z, .slice a n c], .int .i64 0]) ∧ Below W.heap.size W w') (C12 : ∀ W, Below w.heap.size w W → Calls Tryz.prog 12 #[.agg #[.int .i64 z, .slice a n c], .int .i64 0] W fun e w' => (∃ a' c', e = .returned (.slice a' n c') ∧ SL w' a' q) ∧ Below W.heap.size W w') :
    Calls Tryz.prog 4 #[.int .i64 z, .slice a n c] w fun e w' => (∃ a' c', e = .returned (.tuple #[.slice a' n c', .int .i64 0]) ∧ SL w' a' q) ∧ Below w.heap.size w w' := by
  have H11 : Hid _ := C11
  have H12 : Hid _ := C12
  clear C11 C12
  go_enter Tryz.func4, Tryz.ntmps4
  go_wp2_with (first
    | (go_at_call 11; refine (H11.out _ (Below.refl _ _)).mono ?_; rintro e w1 ⟨rfl, hB1⟩; have B1 : Hid (Below w.heap.size w (w1.alloc (.cells #[.int .i64 z, .slice a n c] 35))) := hB1.alloc hB1.size _; have I1 : Hid (IHolds (w1.alloc (.cells #[.int .i64 z, .slice a n c] 35)) w1.heap.size 35 [.int .i64 z, .slice a n c]) := IHolds.new _ _ _; clear hB1 H11)
    | (go_at_call 12; refine (H12.out _ B1.out).mono ?_; rintro e w2 ⟨⟨a2, c2, rfl, s2⟩, hB2⟩; have B2 : Hid (Below w.heap.size w w2) := B1.out.trans (hB2.mono B1.out.size); have S2 : Hid (SL w2 a2 q) := s2; clear hB2 s2 H12)
    | fail)
  exact bodyPost_ret (v := .tuple #[.slice a2 n c2, .int .i64 0]) (by simp [results, Tryz.results4, go_sem]) rfl ⟨by first | exact ⟨_, _, rfl, S2.out⟩ | exact ⟨_, ⟨_, rfl⟩, S2.out⟩, B2.out⟩
set_option maxHeartbeats 2000000 in
theorem together9_bad {w : World} {a b : Option Addr} {n m c d : Nat} {z k : Int} (hk : (k == 0) = false) (hk2 : (k != 0) = true) (C11 : ∀ W, Below w.heap.size w W → Calls Tryz.prog 11 #[.int .i64 z, .slice a n c] W fun e w' => e = .returned (.tuple #[.agg #[.int .i64 0, .slice none 0 0], .int .i64 k]) ∧ Below W.heap.size W w') :
    Calls Tryz.prog 9 #[.int .i64 z, .slice a n c, .slice b m d] w fun e w' => e = .returned (.tuple #[.string ⟨#[]⟩, .int .i64 k]) ∧ Below w.heap.size w w' := by
  have H11 : Hid _ := C11
  clear C11
  go_enter Tryz.func9, Tryz.ntmps9
  go_wp2_with (first
    | (go_at_call 11; refine (H11.out _ (Below.refl _ _)).mono ?_; rintro e w1 ⟨rfl, hB1⟩; have B1 : Hid (Below w.heap.size w (w1.alloc (.cells #[.int .i64 0, .slice none 0 0] 35))) := hB1.alloc hB1.size _; clear hB1 H11)
    | fail)
  exact bodyPost_ret (v := .tuple #[.string ⟨#[]⟩, .int .i64 k]) (by simp [results, Tryz.results9, go_sem]) rfl ⟨rfl, B1.out⟩
set_option maxHeartbeats 2000000 in
theorem together9_wrong {w : World} {a b : Option Addr} {n m c d : Nat} {z k : Int} (hk : (k == 0) = false) (hk2 : (k != 0) = true) (C11 : ∀ W, Below w.heap.size w W → Calls Tryz.prog 11 #[.int .i64 z, .slice a n c] W fun e w' => e = .returned (.tuple #[.agg #[.int .i64 z, .slice a n c], .int .i64 0]) ∧ Below W.heap.size W w') (C22 : ∀ W, Below w.heap.size w W → Calls Tryz.prog 22 #[.agg #[.int .i64 z, .slice a n c], .slice b m d] W fun e w' => e = .returned (.int .i64 k) ∧ Below W.heap.size W w') :
    Calls Tryz.prog 9 #[.int .i64 z, .slice a n c, .slice b m d] w fun e w' => e = .returned (.tuple #[.string ⟨#[]⟩, .int .i64 k]) ∧ Below w.heap.size w w' := by
  have H11 : Hid _ := C11
  have H22 : Hid _ := C22
  clear C11 C22
  go_enter Tryz.func9, Tryz.ntmps9
  go_wp2_with (first
    | (go_at_call 11; refine (H11.out _ (Below.refl _ _)).mono ?_; rintro e w1 ⟨rfl, hB1⟩; have B1 : Hid (Below w.heap.size w (w1.alloc (.cells #[.int .i64 z, .slice a n c] 35))) := hB1.alloc hB1.size _; have I1 : Hid (IHolds (w1.alloc (.cells #[.int .i64 z, .slice a n c] 35)) w1.heap.size 35 [.int .i64 z, .slice a n c]) := IHolds.new _ _ _; clear hB1 H11)
    | (go_at_call 22; refine (H22.out _ B1.out).mono ?_; rintro e w2 ⟨rfl, hB2⟩; have B2 : Hid (Below w.heap.size w w2) := B1.out.trans (hB2.mono B1.out.size); have I2 : Hid (IHolds w2 w1.heap.size 35 [.int .i64 z, .slice a n c]) := I1.out.of_below hB2; have q0 : w2.cell? ⟨w1.heap.size, 0, none⟩ = some (.int .i64 z) := I2.out.cell 0 (by simp); have q1 : w2.cell? ⟨w1.heap.size, 1, none⟩ = some (.slice a n c) := I2.out.cell 1 (by simp); clear hB2 H22)
    | fail)
  exact bodyPost_ret (v := .tuple #[.string ⟨#[]⟩, .int .i64 k]) (by simp [results, Tryz.results9, go_sem]) rfl ⟨rfl, B2.out⟩
set_option maxHeartbeats 2000000 in
theorem together9_ok {w : World} {a b : Option Addr} {n m c d : Nat} {z k : Int} {T : ByteArray} (C11 : ∀ W, Below w.heap.size w W → Calls Tryz.prog 11 #[.int .i64 z, .slice a n c] W fun e w' => e = .returned (.tuple #[.agg #[.int .i64 z, .slice a n c], .int .i64 0]) ∧ Below W.heap.size W w') (C22 : ∀ W, Below w.heap.size w W → Calls Tryz.prog 22 #[.agg #[.int .i64 z, .slice a n c], .slice b m d] W fun e w' => e = .returned (.int .i64 0) ∧ Below W.heap.size W w') (C23 : ∀ W, Below w.heap.size w W → Calls Tryz.prog 23 #[.agg #[.int .i64 z, .slice a n c], .slice b m d] W fun e w' => e = .returned (.string T) ∧ Below W.heap.size W w') :
    Calls Tryz.prog 9 #[.int .i64 z, .slice a n c, .slice b m d] w fun e w' => e = .returned (.tuple #[.string T, .int .i64 0]) ∧ Below w.heap.size w w' := by
  have H11 : Hid _ := C11
  have H22 : Hid _ := C22
  have H23 : Hid _ := C23
  clear C11 C22 C23
  go_enter Tryz.func9, Tryz.ntmps9
  go_wp2_with (first
    | (go_at_call 11; refine (H11.out _ (Below.refl _ _)).mono ?_; rintro e w1 ⟨rfl, hB1⟩; have B1 : Hid (Below w.heap.size w (w1.alloc (.cells #[.int .i64 z, .slice a n c] 35))) := hB1.alloc hB1.size _; have I1 : Hid (IHolds (w1.alloc (.cells #[.int .i64 z, .slice a n c] 35)) w1.heap.size 35 [.int .i64 z, .slice a n c]) := IHolds.new _ _ _; clear hB1 H11)
    | (go_at_call 22; refine (H22.out _ B1.out).mono ?_; rintro e w2 ⟨rfl, hB2⟩; have B2 : Hid (Below w.heap.size w w2) := B1.out.trans (hB2.mono B1.out.size); have I2 : Hid (IHolds w2 w1.heap.size 35 [.int .i64 z, .slice a n c]) := I1.out.of_below hB2; have q0 : w2.cell? ⟨w1.heap.size, 0, none⟩ = some (.int .i64 z) := I2.out.cell 0 (by simp); have q1 : w2.cell? ⟨w1.heap.size, 1, none⟩ = some (.slice a n c) := I2.out.cell 1 (by simp); clear hB2 H22)
    | (go_at_call 23; refine (H23.out _ B2.out).mono ?_; rintro e w4 ⟨rfl, hB4⟩; have B4 : Hid (Below w.heap.size w w4) := B2.out.trans (hB4.mono B2.out.size); clear hB4 H23)
    | fail)
  exact bodyPost_ret (v := .tuple #[.string T, .int .i64 0]) (by simp [results, Tryz.results9, go_sem]) rfl ⟨rfl, B4.out⟩
set_option maxHeartbeats 2000000 in
theorem powers47 {w : World} {z co : Int} {a b : Option Addr} {n m c d : Nat} {T : ByteArray} (C64 : ∀ W, Below w.heap.size w W → Calls Tryz.prog 64 #[.int .i64 z, .slice a n c, .slice b m d] W fun e w' => e = .returned (.tuple #[.string T, .int .i64 co]) ∧ Below W.heap.size W w') :
    Calls Tryz.prog 47 #[.agg #[.int .i64 z], .slice a n c, .slice b m d] w fun e w' => e = .returned (.string T) ∧ Below w.heap.size w w' := by
  have J : Hid (Below w.heap.size w (w.alloc (.cells #[.int .i64 z] 33))) := (Below.refl _ w).alloc (Nat.le_refl _) _
  have H64 : Hid _ := C64
  clear C64
  go_enter Tryz.func47, Tryz.ntmps47
  go_wp2_with (go_at_call 64; refine (H64.out _ J.out).mono ?_; rintro e w1 ⟨rfl, hB1⟩)
  go_ret
  exact ⟨rfl, J.out.trans (hB1.mono J.out.size)⟩
set_option maxHeartbeats 2000000 in
theorem together23 {w : World} {z : Int} {a b : Option Addr} {n m c d : Nat} {q : List ByteArray} {T : ByteArray} (C12 : ∀ W, Below w.heap.size w W → Calls Tryz.prog 12 #[.agg #[.int .i64 z, .slice a n c], .int .i64 0] W fun e w' => (∃ a' c', e = .returned (.slice a' n c') ∧ SL w' a' q) ∧ Below W.heap.size W w')
    (C47 : ∀ W a' c', Below w.heap.size w W → SL W a' q → Calls Tryz.prog 47 #[.agg #[.int .i64 z], .slice b m d, .slice a' n c'] W fun e w' => e = .returned (.string T) ∧ Below W.heap.size W w') :
    Calls Tryz.prog 23 #[.agg #[.int .i64 z, .slice a n c], .slice b m d] w fun e w' => e = .returned (.string T) ∧ Below w.heap.size w w' := by
  generalize hW : w.alloc (.cells #[.int .i64 z, .slice a n c] 35) = W
  have J : Hid (Below w.heap.size w W) := by rw [← hW]; exact (Below.refl _ w).alloc (Nat.le_refl _) _
  have I0 : Hid (IHolds W w.heap.size 35 [.int .i64 z, .slice a n c]) := by rw [← hW]; exact IHolds.new' w 35 [.int .i64 z, .slice a n c] rfl
  have H12 : Hid _ := C12
  have H47 : Hid _ := C47
  clear C12 C47
  have KP : Hid (∀ V, Below W.heap.size W V → (Below W.heap.size W V ∧ V.cell? ⟨w.heap.size, 0, none⟩ = some (.int .i64 z) ∧ V.cell? ⟨w.heap.size, 1, none⟩ = some (.slice a n c))) := fun V hV => ⟨hV, cell_keep (I0.out.cell 0 (by simp)) hV, cell_keep (I0.out.cell 1 (by simp)) hV⟩
  have sB : Hid (∀ V V', Below V.heap.size V V' → Below W.heap.size W V → Below W.heap.size W V') := fun V V' h h' => h'.trans (h.mono h'.size)
  go_enter Tryz.func23, Tryz.ntmps23
  go_wp2_with fail
  clear hW
  go_region_held3 (fun V => Below W.heap.size W V ∧ V.cell? ⟨w.heap.size, 0, none⟩ = some (.int .i64 z) ∧ V.cell? ⟨w.heap.size, 1, none⟩ = some (.slice a n c))
    (first | exact KP.out _ (dB _) | assumption | exact KP.out _ B7.out | exact KP.out _ B6.out | fail)
    (first
      | (go_at_call 12; refine (H12.out _ (J.out.trans ((dB W).mono J.out.size))).mono ?_; rintro e w6 ⟨⟨a6, c6, rfl, s6⟩, hB6⟩; have B6 : Hid (Below W.heap.size W w6) := sB.out _ _ hB6 (dB _); have S6 : Hid (SL w6 a6 q) := s6; clear s6 H12)
      | (go_at_call 47; refine (H47.out _ _ _ (J.out.trans (B6.out.mono J.out.size)) S6.out).mono ?_; rintro e w7 ⟨rfl, hB7⟩; have B7 : Hid (Below W.heap.size W w7) := sB.out _ _ hB7 B6.out; clear H47)
      | fail)
  go_wp2_with fail
  go_ret
  exact ⟨rfl, J.out.trans (B7.out.mono J.out.size)⟩
theorem SL.sat {w : World} {a : Option Addr} {l : List ByteArray} (h : SL w a l) : SAt w a l := fun i hi => by
  obtain ⟨b, o, e, hc⟩ := h i hi
  exact ⟨b, o, e, by rw [tx_at hi]; exact hc⟩
/-- Right places. -/
structure GP (P : List Int) : Prop where
  n0 : P.length ≠ 0
  n16 : P.length ≤ 16
  rg : ∀ y ∈ P, 0 ≤ y ∧ y ≤ 255
  pw : P.Pairwise (· ≠ ·)
theorem gp_of {P : List Int} (h : WP P = 0) : GP P := by
  unfold WP at h
  by_cases h1 : 16 < P.length
  · rw [if_pos h1] at h; exact absurd h (by decide)
  rw [if_neg h1] at h
  by_cases h2 : P.length = 0
  · rw [if_pos h2] at h; exact absurd h (by decide)
  rw [if_neg h2] at h
  by_cases h3 : P.any nop = true
  · rw [if_pos h3] at h; exact absurd h (by decide)
  rw [if_neg h3] at h
  by_cases h4 : twi P P.length = true
  · rw [if_pos h4] at h; exact absurd h (by decide)
  exact ⟨h2, by omega, any_in (Bool.eq_false_iff.2 h3), twi_pair (Bool.eq_false_iff.2 h4)⟩
theorem kk_wp {S M : Nat} {P : List Int} {L : List ByteArray} {x : Int} (h : WP P ≠ 0) : KK S M P L x = WP P := by
  unfold WP at h ⊢
  unfold KK
  by_cases h1 : 16 < P.length
  · rw [if_pos h1, if_pos h1]
  rw [if_neg h1, if_neg h1]
  by_cases h2 : P.length = 0
  · rw [if_pos h2, if_pos h2]
  rw [if_neg h2, if_neg h2]
  by_cases h3 : P.any nop = true
  · rw [if_pos h3, if_pos h3]
  rw [if_neg h3, if_neg h3]
  by_cases h4 : twi P P.length = true
  · rw [if_pos h4, if_pos h4]
  rw [if_neg h1, if_neg h2, if_neg h3, if_neg h4] at h
  exact absurd rfl h
theorem kk_rest {S M : Nat} {P : List Int} {L : List ByteArray} {x : Int} (h : WP P = 0) : KK S M P L x = if L.length ≠ P.length then 2 else if L.any (fun s => !isSc S M s) = true then 6 else if nop x = true then 4 else 0 := by
  unfold WP at h
  unfold KK
  by_cases h1 : 16 < P.length
  · rw [if_pos h1] at h; exact absurd h (by decide)
  rw [if_neg h1] at h ⊢
  by_cases h2 : P.length = 0
  · rw [if_pos h2] at h; exact absurd h (by decide)
  rw [if_neg h2] at h ⊢
  by_cases h3 : P.any nop = true
  · rw [if_pos h3] at h; exact absurd h (by decide)
  rw [if_neg h3] at h ⊢
  by_cases h4 : twi P P.length = true
  · rw [if_pos h4] at h; exact absurd h (by decide)
  rw [if_neg h4]
theorem all_any {S M : Nat} (L : List ByteArray) : L.any (fun s => !isSc S M s) = !L.all (isSc S M) := by
  induction L with
  | nil => rfl
  | cons a r ih => rw [List.any_cons, List.all_cons, ih, Bool.not_and]
theorem all_anyE {S M : Nat} (L : List ByteArray) : L.any (fun s => !isEl S M s) = !L.all (isEl S M) := by
  induction L with
  | nil => rfl
  | cons a r ih => rw [List.any_cons, List.all_cons, ih, Bool.not_and]
section
variable {z : Int} {G : Array Value} {S Wd M low one sq Ri Wd2 M2 low2 one2 sq2 Ri2 : Nat}
theorem places_code (k : KD z G S Wd M low one sq Ri Wd2 M2 low2 one2 sq2 Ri2) {P : List Int} {W : World} {a : Option Addr} {c : Nat} (ia : IL W a P) (hPl : P.length ≤ 9223372036854775807) (hc : P.length ≤ c) (hc9 : c ≤ 9223372036854775807) (hw : WP P ≠ 0) :
    Calls Tryz.prog 11 #[.int .i64 z, .slice a P.length c] W fun e w' => e = .returned (.tuple #[.agg #[.int .i64 0, .slice none 0 0], .int .i64 (WP P)]) ∧ Below W.heap.size W w' := by
  have CG : ∀ W, Calls Tryz.prog 29 #[.int .i64 z] W fun e w' => e = .returned (.tuple #[.agg #[.int .i64 z], .int .i64 0]) ∧ Below W.heap.size W w' := fun W => GRO k W
  unfold WP at hw ⊢
  by_cases h1 : 16 < P.length
  · rw [if_pos h1]; exact places_long CG (by omega)
  rw [if_neg h1] at hw ⊢
  by_cases h2 : P.length = 0
  · rw [if_pos h2]; exact places_nil CG (by omega) (by rw [h2]; rfl)
  rw [if_neg h2] at hw ⊢
  have h1' : ¬ (16 : Int) < (P.length : Int) := by omega
  have h2' : ((P.length : Int) == 0) = false := beq_eq_false_iff_ne.2 (by omega)
  have C10 : ∀ V2, Below W.heap.size W V2 → Calls Tryz.prog 30 #[.slice a P.length c, .func (.func 18) #[] #[]] V2 fun e w' => e = .returned (.bool (P.any nop)) ∧ Below V2.heap.size V2 w' := fun V2 hb2 => contains10 (z := 0) nop (by omega) (ia.of_below hb2) (fun s V => noPlace7 s)
  by_cases h3 : P.any nop = true
  · rw [if_pos h3]
    rw [h3] at C10
    exact places_range CG h1' h2' C10
  rw [if_neg h3] at hw ⊢
  have C11 : ∀ V2, Below W.heap.size W V2 → Calls Tryz.prog 31 #[.slice a P.length c] V2 fun e w' => e = .returned (.bool (twi P P.length)) ∧ Below V2.heap.size V2 w' := fun V2 hb2 => (twice11 (by omega) hc hc9 (ia.of_below hb2)).mono (by rintro e w' ⟨h, rfl⟩; exact ⟨h, Below.refl _ _⟩)
  by_cases h4 : twi P P.length = true
  · rw [if_pos h4]
    rw [Bool.eq_false_iff.2 h3] at C10
    rw [h4] at C11
    exact places_twice CG h1' h2' C10 C11
  rw [if_neg h4] at hw
  exact absurd rfl hw
theorem places_good (k : KD z G S Wd M low one sq Ri Wd2 M2 low2 one2 sq2 Ri2) {P : List Int} {W : World} {a : Option Addr} {c : Nat} (ia : IL W a P) (hc : P.length ≤ c) (hc9 : c ≤ 9223372036854775807) (hw : WP P = 0) :
    Calls Tryz.prog 11 #[.int .i64 z, .slice a P.length c] W fun e w' => e = .returned (.tuple #[.agg #[.int .i64 z, .slice a P.length c], .int .i64 0]) ∧ Below W.heap.size W w' := by
  have CG : ∀ W, Calls Tryz.prog 29 #[.int .i64 z] W fun e w' => e = .returned (.tuple #[.agg #[.int .i64 z], .int .i64 0]) ∧ Below W.heap.size W w' := fun W => GRO k W
  have g := gp_of hw
  unfold WP at hw
  have h1 : ¬ 16 < P.length := by have := g.n16; omega
  have h2 := g.n0
  rw [if_neg h1, if_neg h2] at hw
  by_cases h3 : P.any nop = true
  · rw [if_pos h3] at hw; exact absurd hw (by decide)
  rw [if_neg h3] at hw
  by_cases h4 : twi P P.length = true
  · rw [if_pos h4] at hw; exact absurd hw (by decide)
  have C10 : ∀ V2, Below W.heap.size W V2 → Calls Tryz.prog 30 #[.slice a P.length c, .func (.func 18) #[] #[]] V2 fun e w' => e = .returned (.bool (P.any nop)) ∧ Below V2.heap.size V2 w' := fun V2 hb2 => contains10 (z := 0) nop (by omega) (ia.of_below hb2) (fun s V => noPlace7 s)
  have C11 : ∀ V2, Below W.heap.size W V2 → Calls Tryz.prog 31 #[.slice a P.length c] V2 fun e w' => e = .returned (.bool (twi P P.length)) ∧ Below V2.heap.size V2 w' := fun V2 hb2 => (twice11 (by omega) hc hc9 (ia.of_below hb2)).mono (by rintro e w' ⟨h, rfl⟩; exact ⟨h, Below.refl _ _⟩)
  rw [Bool.eq_false_iff.2 h3] at C10
  rw [Bool.eq_false_iff.2 h4] at C11
  exact places_ok CG (by omega) (beq_eq_false_iff_ne.2 (by omega)) C10 C11
theorem weightsK (k : KD z G S Wd M low one sq Ri Wd2 M2 low2 one2 sq2 Ri2) (hM : 641 ≤ M) (hq : IsP M) {P : List Int} (g : GP P) {W : World} {a : Option Addr} {c : Nat} (ia : IL W a P) :
    Calls Tryz.prog 12 #[.agg #[.int .i64 z, .slice a P.length c], .int .i64 0] W fun e w' => (∃ a' c', e = .returned (.slice a' P.length c') ∧ SL w' a' (wts S M P)) ∧ Below W.heap.size W w' :=
  weights15 g.n16 (wts_len S M P) ia (fun i h h' V hV => by rw [wts_at h h']; exact WEI k hM hq g.n16 g.rg (List.getElem_mem h) (by omega) (ia.of_below hV))
theorem memb_call (k : KD z G S Wd M low one sq Ri Wd2 M2 low2 one2 sq2 Ri2) (w : World) (s : ByteArray) : Calls Tryz.prog 63 #[.int .i64 z, .string s] w fun e w' => e = .returned (.bool (isEl S M s)) ∧ Below w.heap.size w w' :=
  member_face (c := if isEl S M s then 0 else 7) (by cases isEl S M s <;> rfl) (fun W cp hc => on57_60 hc k.hG k.hi k.h1 k.CG (fun W g hI hc => clos60 hc (fun W' hb => elemA ((k.gh W g hI).of_below hb) s k.hS k.big)))
/-- What Weights and Together answer. -/
def wtC (P : List Int) : Int := WP P
def wtL (S M : Nat) (P : List Int) : List ByteArray := if WP P = 0 then wts S M P else []
def toC (S M : Nat) (P : List Int) (L : List ByteArray) : Int := if WP P ≠ 0 then WP P else if L.length ≠ P.length then 2 else togC S M L
def toT (S M M2 : Nat) (P : List Int) (L : List ByteArray) : ByteArray := if WP P ≠ 0 then ⟨#[]⟩ else if L.length ≠ P.length then ⟨#[]⟩ else togT S M M2 P L
theorem ne_k {k : Int} (h : k ≠ 0) : (k == 0) = false ∧ (k != 0) = true := ⟨beq_eq_false_iff_ne.2 h, bne_iff_ne.2 h⟩
def AW (f : Nat) (z : Int) (P : List Int) (co : Int) (L : List ByteArray) : Prop := ∀ W a c, IL W a P → P.length ≤ c → c ≤ 9223372036854775807 → Calls Tryz.prog f #[.int .i64 z, .slice a P.length c] W fun e w' => (∃ a9 c9, e = .returned (.tuple #[.slice a9 L.length c9, .int .i64 co]) ∧ SL w' a9 L) ∧ Below W.heap.size W w'
def AT (f : Nat) (z : Int) (P : List Int) (L : List ByteArray) (co : Int) (T : ByteArray) : Prop := ∀ W a c b d, IL W a P → P.length ≤ c → c ≤ 9223372036854775807 → SL W b L → Calls Tryz.prog f #[.int .i64 z, .slice a P.length c, .slice b L.length d] W fun e w' => e = .returned (.tuple #[.string T, .int .i64 co]) ∧ Below W.heap.size W w'
def AX (f : Nat) (z : Int) (P : List Int) (L : List ByteArray) (x : Int) (co : Int) (T : ByteArray) : Prop := ∀ W a c b d, IL W a P → P.length ≤ c → c ≤ 9223372036854775807 → SL W b L → Calls Tryz.prog f #[.int .i64 z, .slice a P.length c, .slice b L.length d, .int .i64 x] W fun e w' => e = .returned (.tuple #[.string T, .int .i64 co]) ∧ Below W.heap.size W w'
theorem sl_nil (w : World) (a : Option Addr) : SL w a [] := fun i hi => by cases hi
theorem nilW {f : Nat} {args : Array Value} {w : World} {co : Int} (h : Calls Tryz.prog f args w fun e V => e = .returned (.tuple #[.slice none 0 0, .int .i64 co]) ∧ Below w.heap.size w V) :
    Calls Tryz.prog f args w fun e w' => (∃ a9 c9, e = .returned (.tuple #[.slice a9 ([] : List ByteArray).length c9, .int .i64 co]) ∧ SL w' a9 []) ∧ Below w.heap.size w w' :=
  h.mono (by rintro e V ⟨rfl, hB⟩; exact ⟨⟨none, 0, rfl, sl_nil _ _⟩, hB⟩)
theorem lenW {f n : Nat} {args : Array Value} {w : World} {co : Int} {L : List ByteArray} (hn : L.length = n) (h : Calls Tryz.prog f args w fun e V => (∃ a' c', e = .returned (.tuple #[.slice a' n c', .int .i64 co]) ∧ SL V a' L) ∧ Below w.heap.size w V) :
    Calls Tryz.prog f args w fun e w' => (∃ a9 c9, e = .returned (.tuple #[.slice a9 L.length c9, .int .i64 co]) ∧ SL w' a9 L) ∧ Below w.heap.size w w' := by subst hn; exact h
theorem anyW (k : KD z G S Wd M low one sq Ri Wd2 M2 low2 one2 sq2 Ri2) (hM : 641 ≤ M) (hq : IsP M) {P : List Int} (hPl : P.length ≤ 9223372036854775807) : ∃ co L, L.length ≤ 16 ∧ AW 4 z P co L ∧ AW 5 z P co L := by
  by_cases hw : WP P = 0
  · have g := gp_of hw
    refine ⟨0, wts S M P, by rw [wts_len]; exact g.n16, fun W a c ia hc hc9 => lenW (wts_len S M P) (weights4_ok (k := 0) (b := none) (m := 0) (d := 0) (fun V hV => places_good k (ia.of_below hV) hc hc9 hw) (fun V hV => weightsK k hM hq g (ia.of_below hV))), fun W a c ia hc hc9 => lenW (wts_len S M P) (ref5_B k hM g.n0 g.n16 g.rg g.pw ia (fun V hV => by have q := refPlaces14 (c := c) (ia.of_below hV); rw [hw] at q; exact q))⟩
  · exact ⟨WP P, [], by simp, fun W a c ia hc hc9 => nilW (weights4_bad (b := none) (m := 0) (d := 0) (ne_k hw).1 (ne_k hw).2 (fun V hV => places_code k (ia.of_below hV) hPl hc hc9 hw)), fun W a c ia hc hc9 => nilW (ref5_A k (b := none) (m := 0) (d := 0) (ne_k hw).1 (ne_k hw).2 (fun V hV => refPlaces14 (ia.of_below hV)))⟩
theorem anyX (k : KD z G S Wd M low one sq Ri Wd2 M2 low2 one2 sq2 Ri2) (hM : 641 ≤ M) (hq : IsP M) {P : List Int} (hPl : P.length ≤ 9223372036854775807) {L : List ByteArray} (hLl : L.length ≤ 8796093022207) (x : Int) : ∃ co T, AX 7 z P L x co T ∧ AX 8 z P L x co T := by
  refine ⟨KK S M P L x, FF S M P L x, fun W a c b d ia hc hc9 ib => CT_kind k hM hq P L x a b c d W ia ib hPl (by omega) hc hc9, fun W a c b d ia hc hc9 ib => ?_⟩
  have bad : ∀ q : Int, KK S M P L x = q → q ≠ 0 → FF S M P L x = ⟨#[]⟩ := fun q h h0 => by unfold FF; rw [h, if_neg h0]
  by_cases hw : WP P = 0
  case neg =>
    rw [bad _ (kk_wp hw) hw, kk_wp hw]
    exact ref8_A k (ne_k hw).1 (ne_k hw).2 (fun V hV => refPlaces14 (ia.of_below hV))
  have g := gp_of hw
  have C14 : ∀ V, Below W.heap.size W V → Calls Tryz.prog 14 #[.slice a P.length c] V fun e w' => e = .returned (.int .i64 0) ∧ Below V.heap.size V w' := fun V hV => by have q := refPlaces14 (c := c) (ia.of_below hV); rw [hw] at q; exact q
  have hK := kk_rest (S := S) (M := M) (L := L) (x := x) hw
  by_cases he : L.length ≠ P.length
  · rw [if_pos he] at hK
    rw [bad _ hK (by decide), hK]
    exact ref8_B k rfl rfl C14 (fun V qa ql qc pa pl pc hV n1 n2 => wrongScalars_len (bne_iff_ne.2 (by omega)))
  rw [if_neg he, all_any] at hK
  have he' : L.length = P.length := Decidable.not_not.1 he
  have ws : ∀ V qa ql qc pa pl pc, Below W.heap.size W V → NumV V 65536 M (.slice qa ql qc) → NumV V 65536 M2 (.slice pa pl pc) → Calls Tryz.prog 20 #[.agg #[.int .i64 (S : Int), .slice qa ql qc, .slice pa pl pc], .int .i64 (P.length : Int), .slice b L.length d] V fun e w' => e = .returned (.int .i64 (if L.all (isSc S M) = true then 0 else 6)) ∧ Below V.heap.size V w' := fun V qa ql qc pa pl pc hV n1 n2 => by
    have q := wrongScalars23 (c := d) (isSc S M) hLl (ib.of_below hV) (fun s W hW => isScalarV (n1.of_below hW) (n2.of_below hW) s k.hS k.l6)
    rw [he'] at q ⊢
    exact q
  cases hsc : L.all (isSc S M) with
  | false =>
    rw [hsc] at hK ws
    have hK6 : KK S M P L x = 6 := hK
    rw [bad _ hK6 (by decide), hK6]
    exact ref8_B k rfl rfl C14 ws
  | true =>
    rw [hsc] at hK ws
    have hK2 : KK S M P L x = if nop x = true then 4 else 0 := hK
    by_cases hx0 : x < 0
    · have hn : nop x = true := by rw [nop_eq]; simp [hx0]
      rw [if_pos hn] at hK2
      rw [bad _ hK2 (by decide), hK2]
      exact ref8_C k hx0 C14 ws
    by_cases hx1 : (255 : Int) < x
    · have hn : nop x = true := by rw [nop_eq]; simp [hx1]
      rw [if_pos hn] at hK2
      rw [bad _ hK2 (by decide), hK2]
      exact ref8_D k hx0 hx1 C14 ws
    have hn : nop x = false := by rw [nop_eq]; simp [hx0, hx1]
    rw [hn, if_neg (by decide)] at hK2
    have hF : FF S M P L x = go S M P L x := by unfold FF; rw [if_pos hK2]
    rw [hF, hK2]
    obtain ⟨xn, rfl⟩ : ∃ xn : Nat, x = (xn : Int) := ⟨x.toNat, by omega⟩
    have gs := go_sc k.sz hM P L (xn : Int)
    exact ref8_E k hx0 hx1 (isSc_lt gs) (TX_numS (isSc_size gs)) C14 ws (fun V qa ql qc pa pl pc hV n1 n2 => by rw [he']; exact value21 k hM g.n16 g.rg g.pw (ia.of_below hV) he' hsc (ib.of_below hV) (by omega) n1 n2)
theorem anyT (k : KD z G S Wd M low one sq Ri Wd2 M2 low2 one2 sq2 Ri2) (hM : 641 ≤ M) (hq : IsP M) {P : List Int} (hPl : P.length ≤ 9223372036854775807) {L : List ByteArray} (hLl : L.length ≤ 8796093022207) : ∃ co T, AT 9 z P L co T ∧ AT 10 z P L co T := by
  by_cases hw : WP P = 0
  case neg => exact ⟨WP P, ⟨#[]⟩, fun W a c b d ia hc hc9 ib => together9_bad (ne_k hw).1 (ne_k hw).2 (fun V hV => places_code k (ia.of_below hV) hPl hc hc9 hw), fun W a c b d ia hc hc9 ib => ref10_A k (ne_k hw).1 (ne_k hw).2 (fun V hV => refPlaces14 (ia.of_below hV))⟩
  have g := gp_of hw
  have C14 : ∀ (W : World) (a : Option Addr) (c : Nat), IL W a P → ∀ V, Below W.heap.size W V → Calls Tryz.prog 14 #[.slice a P.length c] V fun e w' => e = .returned (.int .i64 0) ∧ Below V.heap.size V w' := fun W a c ia V hV => by have q := refPlaces14 (c := c) (ia.of_below hV); rw [hw] at q; exact q
  by_cases he : L.length = P.length
  case neg => exact ⟨2, ⟨#[]⟩, fun W a c b d ia hc hc9 ib => together9_wrong rfl rfl (fun V hV => places_good k (ia.of_below hV) hc hc9 hw) (fun V hV => wrongE_len (bne_iff_ne.2 (by omega))), fun W a c b d ia hc hc9 ib => ref10_B k (bne_iff_ne.2 (by omega)) (C14 W a c ia)⟩
  have hz : ∀ (z0 : Int), True := fun _ => trivial
  have we : ∀ (W : World) (a b : Option Addr) (c d : Nat), SL W b L → ∀ V, Below W.heap.size W V → Calls Tryz.prog 22 #[.agg #[.int .i64 z, .slice a P.length c], .slice b P.length d] V fun e w' => e = .returned (.int .i64 (if (!L.all (isEl S M)) = true then 7 else 0)) ∧ Below V.heap.size V w' := fun W a b c d ib V hV => by
    rw [← he, ← all_anyE]
    exact wrongE (fun X hX => containsE (fun s => !isEl S M s) (by omega) ((ib.of_below hV).of_below hX) (fun s Y => noElem13 (fun Z => memb_call k Z s)))
  refine ⟨togC S M L, togT S M M2 P L, fun W a c b d ia hc hc9 ib => ?_, fun W a c b d ia hc hc9 ib => by rw [he]; exact ref10_C k hM g.n0 g.n16 g.rg g.pw ia he ib (C14 W a c ia)⟩
  rw [he]
  unfold togC togT
  cases hel : L.all (isEl S M) with
  | false =>
    rw [hel] at we
    exact together9_wrong (k := 7) rfl rfl (fun V hV => places_good k (ia.of_below hV) hc hc9 hw) (we W a b c d ib)
  | true =>
    rw [hel] at we
    have hws : (wts S M P).all (isSc S M) = true := by
      rw [List.all_eq_true]
      intro s hs
      simp only [wts, List.mem_map] at hs
      obtain ⟨y, _, rfl⟩ := hs
      exact wt_sc k.sz hM P y 0
    refine together9_ok (k := 0) (fun V hV => places_good k (ia.of_below hV) hc hc9 hw) (we W a b c d ib) (fun V hV => together23 (fun X hX => weightsK k hM hq g ((ia.of_below hV).of_below hX)) (fun X a' c' hX hs => powers47 (co := (code S M L (wts S M P) : Int)) (fun Y hY => ?_)))
    have q := prod_yes k Y (n := P.length) (cx := d) (cn := c') (((ib.of_below hV).of_below hX).of_below hY).sat (hs.of_below hY).sat he (wts_len S M P) (by have := g.n16; omega)
    unfold prodT at q
    rw [if_pos (code_ok L _ hel hws)] at q
    exact q
end
theorem big1 : 641 ≤ 641 := by decide
theorem same6_len {w : World} {a b : Option Addr} {L : List ByteArray} {c d : Nat} (hl : L.length ≤ 16) (hs : SL w a L) (hm : SL w b L) :
    Calls Tryz.prog 6 #[.slice a L.length c, .slice b L.length d] w fun e w' => e = .returned (.bool true) ∧ Below w.heap.size w w' := by
  have HS : Hid (SL w a L) := hs
  have HM : Hid (SL w b L) := hm
  have k0 : ((L.length : Int) != (L.length : Int)) = false := by simp
  clear hs hm
  go_enter Tryz.func6, Tryz.ntmps6
  go_wp2_with fail
  go_loopg [5, 13] L.length (fun gk v5 v13 wr => ∃ i : Nat, i + gk = L.length ∧ v13 = .int .i64 (i : Int) ∧ Below w.heap.size w wr)
  case atStart => exact ⟨0, by omega, rfl, Below.refl _ _⟩
  case round =>
    obtain ⟨i, hig, rfl, hB⟩ := hrel
    have B : Hid (Below w.heap.size w wr) := hB
    clear hB
    by_cases hi : i < L.length
    · have il : (i : Int) < (L.length : Int) := by omega
      obtain ⟨b1, o1, rfl, h1⟩ := HS.out.of_below B.out i hi
      obtain ⟨b2, o2, rfl, h2⟩ := HM.out.of_below B.out i hi
      generalize L[i] = s at *
      have t1 : (s.toList == s.toList) = true := by simp
      have t2 : (s.toList != s.toList) = false := by simp
      have KP : Hid (∀ V, Below wr.heap.size wr V → (Below wr.heap.size wr V ∧ V.cell? ⟨b1, o1 + i, none⟩ = some (.string s) ∧ V.cell? ⟨b2, o2 + i, none⟩ = some (.string s))) := fun V hV => ⟨hV, cell_keep h1 hV, cell_keep h2 hV⟩
      clear h1 h2
      go_wp2_with fail
      go_region_held3 (fun V => Below wr.heap.size wr V ∧ V.cell? ⟨b1, o1 + i, none⟩ = some (.string s) ∧ V.cell? ⟨b2, o2 + i, none⟩ = some (.string s))
        (first | exact KP.out _ (dB _) | assumption | fail)
        (first | fail)
      go_wp2_with fail
      go_roundg (gk - 1)
      case measure => omega
      case rel => exact ⟨i + 1, by omega, by go_num, by first | exact B.out.drew | exact B.out⟩
    have il : ¬ (i : Int) < (L.length : Int) := by omega
    go_wp2_with fail
    go_ret
    exact ⟨rfl, B.out⟩
set_option maxHeartbeats 4000000 in
theorem law3 {w : World} {z x : Int} {P : List Int} {L E : List ByteArray} {a b d : Option Addr} {ca cb cd : Nat} (ia : IL w a P) (hc : P.length ≤ ca) (hc9 : ca ≤ 9223372036854775807) (ib : SL w b L) (id : SL w d E) {c1 c2 c3 : Int} {Q : List ByteArray} {T1 T2 : ByteArray} (hQ : Q.length ≤ 16)
    (h4 : AW 4 z P c1 Q) (h5 : AW 5 z P c1 Q) (h7 : AX 7 z P L x c2 T1) (h8 : AX 8 z P L x c2 T1) (h9 : AT 9 z P E c3 T2) (h10 : AT 10 z P E c3 T2) :
    Calls Tryz.prog 3 #[.int .i64 z, .slice a P.length ca, .slice b L.length cb, .slice d E.length cd, .int .i64 x] w fun e w' => e = .returned (.bool true) ∧ Below w.heap.size w w' := by
  have KS : Hid (∀ V, Below w.heap.size w V → IL V a P ∧ SL V b L ∧ SL V d E) := fun V hV => ⟨ia.of_below hV, ib.of_below hV, id.of_below hV⟩
  have H4 : Hid (AW 4 z P c1 Q) := h4
  have H5 : Hid (AW 5 z P c1 Q) := h5
  have H7 : Hid (AX 7 z P L x c2 T1) := h7
  have H8 : Hid (AX 8 z P L x c2 T1) := h8
  have H9 : Hid (AT 9 z P E c3 T2) := h9
  have H10 : Hid (AT 10 z P E c3 T2) := h10
  have HC : Hid (P.length ≤ ca) := hc
  have HC9 : Hid (ca ≤ 9223372036854775807) := hc9
  have SA : Hid (∀ W a c b d, SL W a Q → SL W b Q → Calls Tryz.prog 6 #[.slice a Q.length c, .slice b Q.length d] W fun e w' => e = .returned (.bool true) ∧ Below W.heap.size W w') := fun W a c b d g1 g2 => same6_len hQ g1 g2
  have t1 : (T1.toList == T1.toList) = true := by simp
  have t2 : (T1.toList != T1.toList) = false := by simp
  have t3 : (T2.toList == T2.toList) = true := by simp
  have t4 : (c1 != c1) = false := by simp
  have t5 : (c2 != c2) = false := by simp
  have t6 : (c3 == c3) = true := by simp
  have sB : Hid (∀ V V', Below V.heap.size V V' → Below w.heap.size w V → Below w.heap.size w V') := fun V V' h h' => h'.trans (h.mono h'.size)
  clear ia ib id h4 h5 h7 h8 h9 h10 hc hc9 hQ
  go_enter Tryz.func3, Tryz.ntmps3
  go_wp2_with (first
    | (go_at_call 4; refine (H4.out w a ca (KS.out _ (Below.refl _ _)).1 HC.out HC9.out).mono ?_; rintro e w1 ⟨⟨a1, k1, rfl, s1⟩, hB1⟩; have B1 : Hid (Below w.heap.size w w1) := hB1; have S1 : Hid (SL w1 a1 Q) := s1; clear hB1 s1 H4)
    | (go_at_call 5; refine (H5.out w1 a ca (KS.out _ B1.out).1 HC.out HC9.out).mono ?_; rintro e w2 ⟨⟨a2, k2, rfl, s2⟩, hB2⟩; have B2 : Hid (Below w.heap.size w w2) := sB.out _ _ hB2 B1.out; have S2 : Hid (SL w2 a2 Q) := s2; replace S1 : Hid (SL w2 a1 Q) := S1.out.of_below hB2; clear hB2 s2 H5)
    | (go_at_call 6; refine (SA.out w2 a1 k1 a2 k2 S1.out S2.out).mono ?_; rintro e w3 ⟨rfl, hB3⟩; have B3 : Hid (Below w.heap.size w w3) := sB.out _ _ hB3 B2.out; clear hB3 SA)
    | (go_at_call 7; refine (H7.out w3 a ca b cb (KS.out _ B3.out).1 HC.out HC9.out (KS.out _ B3.out).2.1).mono ?_; rintro e w4 ⟨rfl, hB4⟩; have B4 : Hid (Below w.heap.size w w4) := sB.out _ _ hB4 B3.out; clear hB4 H7)
    | (go_at_call 8; refine (H8.out w4 a ca b cb (KS.out _ B4.out).1 HC.out HC9.out (KS.out _ B4.out).2.1).mono ?_; rintro e w5 ⟨rfl, hB5⟩; have B5 : Hid (Below w.heap.size w w5) := sB.out _ _ hB5 B4.out; clear hB5 H8)
    | (go_at_call 9; refine (H9.out w5 a ca d cd (KS.out _ B5.out).1 HC.out HC9.out (KS.out _ B5.out).2.2).mono ?_; rintro e w6 ⟨rfl, hB6⟩; have B6 : Hid (Below w.heap.size w w6) := sB.out _ _ hB6 B5.out; clear hB6 H9)
    | (go_at_call 10; refine (H10.out w6 a ca d cd (KS.out _ B6.out).1 HC.out HC9.out (KS.out _ B6.out).2.2).mono ?_; rintro e w7 ⟨rfl, hB7⟩; have B7 : Hid (Below w.heap.size w w7) := sB.out _ _ hB7 B6.out; clear hB7 H10)
    | fail)
  go_ret
  exact ⟨rfl, B7.out⟩
theorem joins_walk (z x : Int) {w : World} {P : List Int} {L E : List ByteArray} {a b d : Option Addr} {ca cb cd : Nat} (hPl : P.length ≤ 9223372036854775807) (hLl : L.length ≤ 8796093022207) (hEl : E.length ≤ 8796093022207) (ia : IL w a P) (hc : P.length ≤ ca) (hc9 : ca ≤ 9223372036854775807) (ib : SL w b L) (id : SL w d E) :
    Calls Tryz.prog 3 #[.int .i64 z, .slice a P.length ca, .slice b L.length cb, .slice d E.length cd, .int .i64 x] w fun e w' => e = .returned (.bool true) ∧ Below w.heap.size w w' := by
  by_cases z1 : z = 1
  · subst z1
    obtain ⟨c1, Q, hQ, h4, h5⟩ := anyW kd1 (by decide) prime_q1 hPl
    obtain ⟨c2, T1, h7, h8⟩ := anyX kd1 (by decide) prime_q1 hPl hLl x
    obtain ⟨c3, T2, h9, h10⟩ := anyT kd1 (by decide) prime_q1 hPl hEl
    exact law3 ia hc hc9 ib id hQ h4 h5 h7 h8 h9 h10
  by_cases z2 : z = 2
  · subst z2
    obtain ⟨c1, Q, hQ, h4, h5⟩ := anyW kd2 (by decide) prime_q2 hPl
    obtain ⟨c2, T1, h7, h8⟩ := anyX kd2 (by decide) prime_q2 hPl hLl x
    obtain ⟨c3, T2, h9, h10⟩ := anyT kd2 (by decide) prime_q2 hPl hEl
    exact law3 ia hc hc9 ib id hQ h4 h5 h7 h8 h9 h10
  by_cases z3 : z = 3
  · subst z3
    obtain ⟨c1, Q, hQ, h4, h5⟩ := anyW kd3 (by decide) prime_q3 hPl
    obtain ⟨c2, T1, h7, h8⟩ := anyX kd3 (by decide) prime_q3 hPl hLl x
    obtain ⟨c3, T2, h9, h10⟩ := anyT kd3 (by decide) prime_q3 hPl hEl
    exact law3 ia hc hc9 ib id hQ h4 h5 h7 h8 h9 h10
  have G := fun W => ground0 W z (beq_eq_false_iff_ne.2 z1) (beq_eq_false_iff_ne.2 z2) (beq_eq_false_iff_ne.2 z3)
  have PN : ∀ (V : World) (a : Option Addr) (n c : Nat), Calls Tryz.prog 11 #[.int .i64 z, .slice a n c] V fun e w' => e = .returned (.tuple #[.agg #[.int .i64 0, .slice none 0 0], .int .i64 1]) ∧ Below V.heap.size V w' := fun V a n c => places_none (fun V => groundOf9 (fun V => sizes_call (on46_no 68 rfl size70 (by kernel_rfl) G)))
  exact law3 ia hc hc9 ib id (c1 := 1) (c2 := 1) (c3 := 1) (Q := []) (T1 := ⟨#[]⟩) (T2 := ⟨#[]⟩) (by simp) (fun W a c ia hc hc9 => nilW (weights4_bad (b := none) (m := 0) (d := 0) rfl rfl (fun V hV => PN V _ _ _))) (fun W a c ia hc hc9 => nilW (ref5_none z1 z2 z3 (b := none) (m := 0) (d := 0))) (fun W a c b d ia hc hc9 ib => CT_none z1 z2 z3 P L x a b c d W) (fun W a c b d ia hc hc9 ib => ref8_none z1 z2 z3) (fun W a c b d ia hc hc9 ib => together9_bad rfl rfl (fun V hV => PN V _ _ _)) (fun W a c b d ia hc hc9 ib => ref10_none z1 z2 z3)
end Go.Proofs.YtlimogamjgehjaaGreat
