/- Sample, as the document has it. -/
import Derived.Test.YtlchlajckodppaaDoorSb
set_option linter.unusedSimpArgs false
set_option linter.unusedVariables false
set_option maxRecDepth 100000
namespace Go.Proofs.YtlchlajckodppaaDoor
open Go.RowKit Go.Deep Go.PlainAid

theorem n256_len (l : List UInt8) (h : l.length ≤ 32) : (dg 10 (n256 l)).length ≤ 78 := by
  refine dg_len_le ten _ _ (Nat.lt_of_lt_of_le (n256_lt l) ?_)
  refine Nat.le_trans (Nat.pow_le_pow_right (by omega) h) (by decide)
theorem n256_len2 (l : List UInt8) (h : l.length ≤ 32) : (dg 10 (n256 l * 256)).length ≤ 81 := by
  have h1 : n256 l < 256 ^ 32 := Nat.lt_of_lt_of_le (n256_lt l) (Nat.pow_le_pow_right (by omega) h)
  have h3 : (256 : Nat) ^ 32 * 256 ≤ 10 ^ 81 := by decide
  refine dg_len_le ten _ _ ?_
  generalize (10 : Nat) ^ 81 = T at *
  generalize (256 : Nat) ^ 32 = U at *
  have : n256 l * 256 < U * 256 := Nat.mul_lt_mul_of_pos_right h1 (by omega)
  omega
theorem allDig_txt (n : Nat) : allDig (txt n) = true := by
  have h1 := isNum_txt n
  unfold isNum at h1
  rw [Bool.and_eq_true] at h1
  exact h1.1
theorem txt_dig (n i : Nat) (h : i < (txt n).length) : 48 ≤ ((txt n)[i]'h).toNat ∧ ((txt n)[i]'h).toNat ≤ 57 := by
  have h1 := allDig_txt n
  unfold allDig at h1
  rw [List.all_eq_true] at h1
  have h2 := h1 _ (List.getElem_mem h)
  unfold isDig at h2
  rw [Bool.and_eq_true] at h2
  exact ⟨by simpa using h2.1, by simpa using h2.2⟩
theorem bv_take (l : List UInt8) (i : Nat) (h : i < l.length) : bv (l.take (i + 1)) = bv (l.take i) * 10 + ((l[i]'h).toNat - 48) := by
  rw [List.take_succ_eq_append_getElem h, bv_snoc]
theorem bv_take_lt (l : List UInt8) (i : Nat) (h : allDig l = true) (hl : l.length ≤ 7) : bv (l.take i) < 10000000 := by
  have h1 : allDig (l.take i) = true := by
    unfold allDig at *
    rw [List.all_eq_true] at *
    exact fun x hx => h x (List.mem_of_mem_take hx)
  refine Nat.lt_of_lt_of_le (bv_lt _ h1) ?_
  have h2 : (l.take i).length ≤ 7 := by rw [List.length_take]; omega
  exact Nat.le_trans (Nat.pow_le_pow_right (by omega) h2) (by decide)

set_option maxHeartbeats 400000 in
theorem ref5_bad (seed : ByteArray) (t n : Int) (h : ¬ ((1 ≤ t ∧ t ≤ 1048576) ∧ (0 ≤ n ∧ n ≤ 1024))) (w : World) :
    Calls Tryd.prog 5 #[.string seed, .int .i64 t, .int .i64 n] w fun e w' => e = .returned (.tuple #[.slice none 0 0, .int .i64 4]) ∧ w' = w := by
  by_cases h1 : t < 1
  · go_enter Tryd.func5, Tryd.ntmps5
    go_wp2_with fail
    go_ret2
    exact ⟨rfl, rfl⟩
  by_cases h2 : 1048576 < t
  · go_enter Tryd.func5, Tryd.ntmps5
    go_wp2_with fail
    go_ret2
    exact ⟨rfl, rfl⟩
  by_cases h3 : n < 0
  · go_enter Tryd.func5, Tryd.ntmps5
    go_wp2_with fail
    go_ret2
    exact ⟨rfl, rfl⟩
  by_cases h4 : 1024 < n
  · go_enter Tryd.func5, Tryd.ntmps5
    go_wp2_with fail
    go_ret2
    exact ⟨rfl, rfl⟩
  exact absurd ⟨⟨by omega, by omega⟩, by omega, by omega⟩ h

set_option maxHeartbeats 4000000 in
theorem ref5_ok (seed : ByteArray) (hs : seed.size ≤ 140737488355328) (t n : Nat) (t1 : 1 ≤ t) (t2 : t ≤ 1048576) (n2 : n ≤ 1024) (w : World) :
    Calls Tryd.prog 5 #[.string seed, .int .i64 (t : Int), .int .i64 (n : Int)] w fun e w' => (∃ v, e = .returned (.tuple #[v, .int .i64 0]) ∧ LN w' (sL seed t n) v) ∧ Below w.heap.size w w' := by
  obtain ⟨i0, hi0, hz0, hz1, hz2⟩ := info_parts Tryd.info3
  have TG : Hid (∀ k b W, F.SAt W (some ⟨b, 0, none⟩) [seed, fourT k] → Calls Tryd.prog 11 #[.string lab, .slice (some ⟨b, 0, none⟩) 2 2] W fun e w' => e = .returned (.string (smp seed k)) ∧ Below W.heap.size W w') := fun k b W h => tagD seed hs k b W h
  have FO : Hid (∀ k W, k ≤ 1024 → Calls Tryd.prog 12 #[.int .i64 ((k : Nat) : Int)] W fun e w' => e = .returned (.string (fourT k)) ∧ Below W.heap.size W w') := fun k W hk => F.refFourB_any k (by omega) W
  have OF : Hid (∀ x W (z : Int), z = (x : Nat) → x ≤ 1048576 → Calls Tryd.prog 13 #[.int .i64 z] W fun e w' => (∃ v, e = .returned v ∧ NumV w' 10 x v) ∧ Below W.heap.size W w') := fun x W z hz hx => by rw [hz]; exact refOf_any W x hx
  clear hs
  have c1 : ¬ (t : Int) < 1 := by omega
  have c2 : ¬ (1048576 : Int) < (t : Int) := by omega
  have c3 : ¬ (n : Int) < 0 := by omega
  have c4 : ¬ (1024 : Int) < (n : Int) := by omega
  go_enter Tryd.func5, Tryd.ntmps5
  go_wp2_with fail
  clear c1 c2 c3 c4
  go_loopg [8, 9] n (fun gk v8 v9 wr => ∃ (k : Nat) (v : Value), k + gk = n ∧ v9 = .int .i64 (k : Int) ∧ v = v8 ∧ wr.ownsRow w.heap.size 3 1 v k (zs (sL seed t k)) ∧ Below w.heap.size w wr)
  case atStart => exact ⟨0, _, by omega, rfl, rfl, World.ownsRow_nil _ _ _ _, Below.refl _ _⟩
  case round =>
    rename World => W0
    rename Nat => G
    obtain ⟨k, v, hk, rfl, rfl, ho, hB⟩ := hrel
    have HO : Hid (W0.ownsRow w.heap.size 3 1 v k (zs (sL seed t k))) := ho
    have HB : Hid (Below w.heap.size w W0) := hB
    clear ho hB
    by_cases hp : k < n
    · have hp' : (k : Int) < (n : Int) := by omega
      have FO1 : Hid (Calls Tryd.prog 12 #[.int .i64 (k : Int)] W0 fun e w' => e = .returned (.string (fourT k)) ∧ Below W0.heap.size W0 w') := FO.out k W0 (by omega)
      have TG1 : Hid (∀ b W, F.SAt W (some ⟨b, 0, none⟩) [seed, fourT k] → Calls Tryd.prog 11 #[.string lab, .slice (some ⟨b, 0, none⟩) 2 2] W fun e w' => e = .returned (.string (smp seed k)) ∧ Below W.heap.size W w') := TG.out k
      have HE : Hid (zs (sL seed t (k + 1)) = zs (sL seed t k) ++ [I (sv seed t k)]) := by show _ = _; rw [sL_succ, zs_append]; rfl
      have TT : Hid (∀ W : World, F.SAt (W.alloc (.cells #[.string seed, .string (fourT k)] 9)) (some ⟨W.heap.size, 0, none⟩) [seed, fourT k]) := fun W => two_at W seed (fourT k)
      have HY : Hid (n256 (smp seed k).data.toList % t = sv seed t k) := rfl
      have hy7 : sv seed t k < 1048576 := Nat.lt_of_lt_of_le (Nat.mod_lt _ t1) t2
      have e32n : (smp seed k).size = 32 := smp_size _ _
      clear FO TG
      generalize sv seed t k = y at *
      generalize smp seed k = SM at *
      generalize fourT k = F4 at *
      have e32 : (SM.size : Int) = 32 := by omega
      go_wp2_with (first | (go_at_call 12; refine FO1.out.mono ?_; rintro e w1 ⟨rfl, b1⟩; have B2 : Hid (Below W0.heap.size W0 (w1.alloc (.cells #[.string seed, .string F4] 9))) := b1.alloc b1.size _; clear b1) | (go_at_call 11; refine (TG1.out _ _ (TT.out _)).mono ?_; rintro e w2 ⟨rfl, b2⟩; have B3 : Hid (Below W0.heap.size W0 w2) := B2.out.trans (b2.mono B2.out.size); clear b2) | (go_at_call 13; refine (OF.out 0 _ _ rfl (by omega)).mono ?_; rintro e w3 ⟨⟨x3, rfl, m3⟩, b3⟩; have B4 : Hid (Below W0.heap.size W0 w3) := B3.out.trans (b3.mono B3.out.size); have M3 : Hid (NumV w3 10 0 x3) := m3; clear b3 m3))
      go_loopg [11, 45] 32 (fun gk v11 v45 wr => ∃ (i : Nat) (x : Value), i + gk = 32 ∧ v45 = .int .i64 (i : Int) ∧ x = v11 ∧ NumV wr 10 (n256 (SM.data.toList.take i)) x ∧ Below W0.heap.size W0 wr)
      case atStart => exact ⟨0, _, by omega, rfl, rfl, M3.out, B4.out⟩
      case round =>
        obtain ⟨i, x, hi, rfl, rfl, hx, hB5⟩ := hrel
        have X5 : Hid (NumV wr 10 (n256 (SM.data.toList.take i)) x) := hx
        have B5 : Hid (Below W0.heap.size W0 wr) := hB5
        clear hx hB5 B2 B3 B4 M3 FO1 TG1 TT
        have HL : Hid (SM.data.toList.length = 32) := e32n
        by_cases hq : i < 32
        · have hq' : (i : Int) < 32 := by omega
          have hqs : i < SM.size := by omega
          have c9 : (SM[i]'hqs).toNat < 256 := (SM[i]'hqs).toNat_lt
          have NT : Hid (n256 (SM.data.toList.take (i + 1)) = n256 (SM.data.toList.take i) * 256 + (SM[i]'hqs).toNat) := n256_take _ i hqs
          have L1 : Hid ((dg 10 (n256 (SM.data.toList.take i))).length ≤ 1000000) := Nat.le_trans (n256_len _ (by rw [List.length_take]; omega)) (by omega)
          have L2 : Hid ((dg 10 (n256 (SM.data.toList.take i) * 256)).length ≤ 1000000) := Nat.le_trans (n256_len2 _ (by rw [List.length_take]; omega)) (by omega)
          have sB : Hid (∀ V V', Below V.heap.size V V' → Below wr.heap.size wr V → Below wr.heap.size wr V') := fun V V' h h' => h'.trans (h.mono h'.size)
          obtain ⟨c, hc⟩ : ∃ c, (SM[i]'hqs).toNat = c := ⟨_, rfl⟩
          have HC : Hid ((SM[i]'hqs).toNat = c) := hc
          rw [hc] at NT c9
          clear hc
          have HW : Hid (IntKind.i64.wrap (c : Int) = (c : Int)) := by
            show _ = _
            first | go_num | (show RowKit.wrap64 (c : Int) = (c : Int); unfold RowKit.wrap64; omega) | (simp [IntKind.wrap, IntKind.bits, IntKind.signed]; omega)
          have L3 : Hid ((dg 10 c).length ≤ 1000000) := Nat.le_trans (dg_len_le ten 3 c (by omega)) (by omega)
          have L4 : Hid ((dg 10 256).length ≤ 1000000) := Nat.le_trans (dg_len_le ten 3 256 (by omega)) (by omega)
          generalize n256 (SM.data.toList.take i) = nn at *
          have O256 : Hid (∀ V, Calls Tryd.prog 13 #[.int .i64 256] V fun e w' => (∃ v, e = .returned v ∧ NumV w' 10 256 v) ∧ Below V.heap.size V w') := fun V => OF.out 256 V 256 rfl (by omega)
          have OC : Hid (∀ V (z : Int), z = (c : Nat) → Calls Tryd.prog 13 #[.int .i64 z] V fun e w' => (∃ v, e = .returned v ∧ NumV w' 10 c v) ∧ Below V.heap.size V w') := fun V z hz => OF.out c V z hz (by omega)
          have HMU : Hid (∀ V u1 u2, NumV V 10 nn u1 → NumV V 10 256 u2 → Calls Tryd.prog 15 #[u1, u2] V fun e w' => (∃ v, e = .returned v ∧ NumV w' 10 (nn * 256) v) ∧ Below V.heap.size V w') := fun V u1 u2 h1 h2 => refMulV h1 h2 L1.out L4.out
          have HAD : Hid (∀ V u1 u2, NumV V 10 (nn * 256) u1 → NumV V 10 c u2 → Calls Tryd.prog 14 #[u1, u2] V fun e w' => (∃ v, e = .returned v ∧ NumV w' 10 (nn * 256 + c) v) ∧ Below V.heap.size V w') := fun V u1 u2 h1 h2 => refAddV h1 h2 L2.out L3.out
          clear L1 L2 L3 L4 OF HY HE HO
          go_wp2_with fail
          go_region_held3 (fun V => Below wr.heap.size wr V)
            (first | exact (Below.refl _ wr).drew | assumption | exact D4.out | exact D3.out | exact D2.out | exact D1.out | fail)
            (first
              | (go_at_call 13; refine (O256.out _).mono ?_; rintro e v1 ⟨⟨r1, rfl, m1⟩, b1⟩; have D1 : Hid (Below wr.heap.size wr v1) := sB.out _ _ b1 (by assumption); have M1 : Hid (NumV v1 10 256 r1) := m1; clear m1 b1 O256)
              | (go_at_call 15; refine (HMU.out _ _ _ (X5.out.of_below D1.out) M1.out).mono ?_; rintro e v2 ⟨⟨r2, rfl, m2⟩, b2⟩; have D2 : Hid (Below wr.heap.size wr v2) := sB.out _ _ b2 D1.out; have M2 : Hid (NumV v2 10 (nn * 256) r2) := m2; clear m2 b2 HMU)
              | (go_at_call 13; refine (OC.out _ _ (by rw [HC.out]; exact HW.out)).mono ?_; rintro e v3 ⟨⟨r3, rfl, m3⟩, b3⟩; have D3 : Hid (Below wr.heap.size wr v3) := sB.out _ _ b3 D2.out; have M3 : Hid (NumV v3 10 c r3) := m3; replace M2 : Hid (NumV v3 10 (nn * 256) r2) := M2.out.of_below b3; clear m3 b3 OC)
              | (go_at_call 14; refine (HAD.out _ _ _ M2.out M3.out).mono ?_; rintro e v4 ⟨⟨r4, rfl, m4⟩, b4⟩; have D4 : Hid (Below wr.heap.size wr v4) := sB.out _ _ b4 D3.out; have M4 : Hid (NumV v4 10 (nn * 256 + c) r4) := m4; clear m4 b4 HAD)
              | fail)
          all_goals (go_wp2_with fail)
          all_goals (go_roundg (gk - 1))
          all_goals first | omega | exact ⟨i + 1, _, by omega, by go_num, rfl, by rw [NT.out]; exact M4.out, B5.out.trans (D4.out.mono B5.out.size)⟩
        · obtain rfl : i = 32 := by omega
          have hq' : ¬ ((32 : Nat) : Int) < 32 := by omega
          have HE2 : Hid (SM.data.toList.take 32 = SM.data.toList) := List.take_of_length_le (Nat.le_of_eq HL.out)
          have L1 : Hid ((dg 10 (n256 SM.data.toList)).length ≤ 900000) := Nat.le_trans (n256_len _ (Nat.le_of_eq HL.out)) (by omega)
          have L2 : Hid ((dg 10 t).length ≤ 900000) := Nat.le_trans (dg_len_le ten 7 t (by omega)) (by omega)
          have L3 : Hid ((dg 10 y).length ≤ 1000000) := Nat.le_trans (dg_len_le ten 7 y (by omega)) (by omega)
          have X6 : Hid (NumV wr 10 (n256 SM.data.toList) x) := by have := X5.out; rw [HE2.out] at this; exact this
          have OT : Hid (∀ V, Calls Tryd.prog 13 #[.int .i64 (t : Int)] V fun e w' => (∃ v, e = .returned v ∧ NumV w' 10 t v) ∧ Below V.heap.size V w') := fun V => OF.out t V _ rfl t2
          have HDV : Hid (∀ V u1 u2, NumV V 10 (n256 SM.data.toList) u1 → NumV V 10 t u2 → Calls Tryd.prog 16 #[u1, u2] V fun e w' => (∃ q1 q2, e = .returned (.tuple #[q1, q2]) ∧ NumV w' 10 y q2) ∧ Below V.heap.size V w') := fun V u1 u2 h1 h2 => (refDivV h1 h2 (by omega) L1.out L2.out).mono (by rintro e w' ⟨⟨q1, q2, rfl, g1, g2⟩, g3⟩; exact ⟨⟨q1, q2, rfl, by rw [← HY.out]; exact g2⟩, g3⟩)
          have HTX : Hid (∀ V u, NumV V 10 y u → Calls Tryd.prog 17 #[u] V fun e w' => e = .returned (.string ⟨(txt y).toArray⟩) ∧ Below V.heap.size V w') := fun V u h => refTextV h L3.out
          have TL : (⟨(txt y).toArray⟩ : ByteArray).size ≤ 7 := by show (txt y).toArray.size ≤ 7; rw [List.size_toArray]; exact txt_len_le y 7 (by omega) (by omega)
          have TD : Hid (∀ p (h : p < (⟨(txt y).toArray⟩ : ByteArray).size), 48 ≤ ((⟨(txt y).toArray⟩ : ByteArray)[p]'h).toNat ∧ ((⟨(txt y).toArray⟩ : ByteArray)[p]'h).toNat ≤ 57) := fun p h => txt_dig y p (show p < (txt y).length from (by have h2 : p < (txt y).toArray.size := h; rw [List.size_toArray] at h2; exact h2))
          have TV : Hid (bv (⟨(txt y).toArray⟩ : ByteArray).data.toList = y) := bv_txt y
          have TB : Hid (∀ p, bv ((⟨(txt y).toArray⟩ : ByteArray).data.toList.take p) < 10000000) := fun p => bv_take_lt _ p (allDig_txt y) (txt_len_le y 7 (by omega) (by omega))
          clear OF HY X5 L1 L2 L3 HE2
          generalize (⟨(txt y).toArray⟩ : ByteArray) = s at *
          go_wp2_with (first | (go_at_call 13; refine (OT.out _).mono ?_; rintro e v1 ⟨⟨r1, rfl, m1⟩, b1⟩; have D1 : Hid (Below W0.heap.size W0 v1) := B5.out.trans (b1.mono B5.out.size); have M1 : Hid (NumV v1 10 t r1) := m1; have X7 : Hid (NumV v1 10 (n256 SM.data.toList) x) := X6.out.of_below b1; clear m1 b1 OT X6) | (go_at_call 16; refine (HDV.out _ _ _ X7.out M1.out).mono ?_; rintro e v2 ⟨⟨q1, q2, rfl, m2⟩, b2⟩; have D2 : Hid (Below W0.heap.size W0 v2) := D1.out.trans (b2.mono D1.out.size); have M2 : Hid (NumV v2 10 y q2) := m2; clear m2 b2 HDV X7 M1 D1) | (go_at_call 17; refine (HTX.out _ _ M2.out).mono ?_; rintro e v3 ⟨rfl, b3⟩; have D3 : Hid (Below W0.heap.size W0 v3) := D2.out.trans (b3.mono D2.out.size); have J0 : Hid ((v3.iter s 0).heap[v3.heap.size]? = some (.stringIter s 0)) := World.iter_heap v3 s 0; have J1 : Hid (Below v3.heap.size v3 (v3.iter s 0)) := (Below.refl _ v3).alloc (Nat.le_refl _) _; clear b3 HTX M2 D2))
          go_loopg [15] s.size (fun gk v15 wr => ∃ (pos : Nat), pos + gk = s.size ∧ v15 = .int .i64 ((bv (s.data.toList.take pos) : Nat) : Int) ∧ wr.heap[v3.heap.size]? = some (.stringIter s pos) ∧ Below v3.heap.size v3 wr)
          case atStart => exact ⟨0, by omega, rfl, J0.out, J1.out⟩
          case round =>
            rename World => W7
            rename Nat => g7
            obtain ⟨pos, hpg, rfl, hit, hJ⟩ := hrel
            have J : Hid (Below v3.heap.size v3 W7) := hJ
            clear hJ J0 J1
            have hb9 := TB.out pos
            by_cases hr : pos < s.size
            · have hnx : ∀ ty, (Instr.next (.pointer (some ⟨v3.heap.size, 0, none⟩)) true ty).run Tryd.prog W7 = _ := fun ty => Lib.run_next_any_at W7 (v3.heap.size) s pos ty hit hr
              have hd := TD.out pos hr
              have BT : Hid (bv (s.data.toList.take (pos + 1)) = bv (s.data.toList.take pos) * 10 + ((s[pos]'hr).toNat - 48)) := bv_take _ pos hr
              rw [decode_ascii s pos hr (by omega)] at hnx
              have J2 : Hid (Below v3.heap.size v3 (W7.iterAt v3.heap.size s (pos + 1))) := Lib.below_iterAt J.out (Nat.le_refl _) s (pos + 1)
              have IT2 : Hid ((W7.iterAt v3.heap.size s (pos + 1)).heap[v3.heap.size]? = some (.stringIter s (pos + 1))) := Lib.iterAt_heap W7 v3.heap.size s pos (pos + 1) hit
              have ec : (s[pos]'hr) = (s.data.toList[pos]'hr) := rfl
              simp only [ec] at hnx hd BT
              clear hit ec
              generalize (s.data.toList[pos]'hr).toNat = c at *
              generalize bv (s.data.toList.take pos) = z at *
              go_wp2_with fail
              go_roundg (g7 - 1)
              case measure => omega
              case rel => exact ⟨pos + 1, by omega, by rw [BT.out]; go_num, IT2.out, J2.out⟩
            · have hnx : ∀ ty, (Instr.next (.pointer (some ⟨v3.heap.size, 0, none⟩)) true ty).run Tryd.prog W7 = _ := fun ty => Lib.run_next_end_at W7 (v3.heap.size) s pos ty hit hr
              obtain rfl : pos = s.size := by omega
              have TE : bv (s.data.toList.take s.size) = y := by rw [show s.data.toList.take s.size = s.data.toList from List.take_of_length_le (Nat.le_refl _)]; exact TV.out
              rw [TE]
              have B7 : Hid (Below W0.heap.size W0 W7) := D3.out.trans (J.out.mono D3.out.size)
              have O3 : Hid (W7.ownsRow w.heap.size 3 1 v k (zs (sL seed t k))) := ownsRow_below HO.out B7.out
              have B8 : Hid (Below w.heap.size w W7) := HB.out.trans (B7.out.mono HB.out.size)
              have O4 : Hid ((W7.alloc (.cells #[.int .i64 (y : Int)] 3)).ownsRow w.heap.size 3 1 v k (zs (sL seed t k))) := O3.out.alloc _
              have B9 : Hid (Below w.heap.size w (W7.alloc (.cells #[.int .i64 (y : Int)] 3))) := B8.out.alloc B8.out.size _
              have HC2 : Hid (∀ jj u, [I y][jj]? = some u → (W7.alloc (.cells #[.int .i64 (y : Int)] 3)).cell? ((⟨W7.heap.size, 0, none⟩ : Addr).add jj) = some u) := (fun jj u hu => by (match jj, hu with | 0, hu => (simp at hu; subst hu; simp [Addr.add])))
              clear TE hit J TV TD TB hb9 TL HO HB O3 B8 D3
              go_wp2_with (at_builtin; refine wpList_append_own _ rfl (.tmp 77) (.tmp 79) 22 rfl w.heap.size 3 i0 (.int .i64 0) 1 8 Tryd.underlying22 hi0 hz0 hz1 hz2 rfl (by decide) v k (zs (sL seed t k)) rfl O4.out ⟨W7.heap.size, 0, none⟩ 1 1 [I y] rfl rfl HC2.out (fun u hu => by simp at hu; subst hu; rfl) (by unfold maxLen; omega) (by omega) B9.out.size ?_; intro v1 w4 hown1 hgrow1 hn1; have O5 : Hid (w4.ownsRow w.heap.size 3 1 v1 (k + 1) (zs (sL seed t k) ++ [I y])) := hown1; have B5' : Hid (Below w.heap.size w w4) := B9.out.grown hgrow1 B9.out.size (fun k hk => (O4.out.lt k hk).1); clear hown1 hgrow1 hn1)
              go_roundg (G - 1)
              case measure => omega
              case rel => exact ⟨k + 1, _, by omega, by go_num, rfl, by rw [HE.out]; exact O5.out, B5'.out⟩
    · have hp' : ¬ (k : Int) < (n : Int) := by omega
      obtain rfl : k = n := by omega
      have HR : Hid (LN W0 (sL seed t k) v) := by
        obtain ⟨a, cap, e1, g1, g2, g3⟩ := Row.of_owned HO.out
        exact ⟨a, cap, e1, g3⟩
      clear HO FO TG OF
      go_wp2_with fail
      go_ret2
      exact ⟨⟨_, rfl, HR.out⟩, HB.out⟩
end Go.Proofs.YtlchlajckodppaaDoor
