/- The walk of the reference's Show. -/
import Derived.Test.YtnahindcgedbaaaDoorRefOf
import Derived.Test.YtnahindcgedbaaaDoorShowPlain
import Derived.Test.YtnahindcgedbaaaDoorAid
set_option linter.unusedSimpArgs false
set_option linter.unusedVariables false
namespace Go.Proofs.YtnahindcgedbaaaDoor
open Go.RowKit Go.Deep Go.PlainAid

theorem one_byte (W : World) (d : Nat) (hd : d < 10) :
    ∀ z : Int, z = (d : Int) + 48 → (convert 72 9 (.slice (some ⟨W.heap.size, 0, none⟩) 1 1)).run Tryd.prog (W.alloc (.cells #[.int .u8 z] 5)) = .ok (.string ⟨#[UInt8.ofNat (d + 48)]⟩) (W.alloc (.cells #[.int .u8 z] 5)) := by
  rintro z rfl
  have hcv := run_convert_bytes_arg (P := Tryd.prog) (W.alloc (.cells #[.int .u8 ((d : Int) + 48)] 5)) 72 5 Tryd.underlying72 Tryd.underlying5 W.heap.size 0 1 1 ([UInt8.ofNat (d + 48)].map fun x => (x.toNat : Int)) rfl (fun k hk => by
    have : k = 0 := by omega
    subst this
    have e : (UInt8.ofNat (d + 48)).toNat = d + 48 := by rw [UInt8.toNat_ofNat']; omega
    simp [e]
    omega) 9 Tryd.underlying9
  rw [Lib.Lz.strOfNums_map] at hcv
  exact hcv

theorem showS_len (p : Nat) (m : List Nat) (k : Nat) : (showS p m k).length ≤ k + 1 := by
  unfold showS
  split
  · rw [chars_length, List.length_take]; omega
  · rw [List.length_append, chars_length, List.length_drop, List.length_take, List.length_cons, chars_length, List.length_take]; omega
theorem ba_cons (c : UInt8) (S : List UInt8) : (⟨#[c]⟩ : ByteArray) ++ ⟨S.toArray⟩ = ⟨(c :: S).toArray⟩ := by
  apply ByteArray.ext
  simp [ByteArray.data_append]
theorem ba_digit (d : Nat) (S : List UInt8) : (⟨#[UInt8.ofNat d + 48]⟩ : ByteArray) ++ ⟨S.toArray⟩ = ⟨(UInt8.ofNat (d + 48) :: S).toArray⟩ := by
  rw [UInt8.ofNat_add]; exact ba_cons _ _
theorem ba_dot (d : Nat) (S : List UInt8) : (⟨#[UInt8.ofNat d + 48]⟩ : ByteArray) ++ ((⟨#[46]⟩ : ByteArray) ++ ⟨S.toArray⟩) = ⟨(UInt8.ofNat (d + 48) :: 46 :: S).toArray⟩ := by
  rw [ba_cons 46 S]; exact ba_digit d (46 :: S)
theorem ba_append (R S : List UInt8) : (⟨R.toArray⟩ : ByteArray) ++ ⟨S.toArray⟩ = ⟨(R ++ S).toArray⟩ := by
  apply ByteArray.ext
  simp [ByteArray.data_append]
set_option maxRecDepth 100000 in
set_option maxHeartbeats 1000000 in
theorem refShowV {w : World} {n d p : Nat} {p1 p2 : Value} (h1 : NumV w 10 n p1) (h2 : NumV w 10 d p2) (hd : d ≠ 0) (b1 : (dg 10 n).length ≤ 5000) (b2 : (dg 10 d).length ≤ 5000) (hp : p ≤ 100) :
    Calls Tryd.prog 43 #[.agg #[p1, p2], .int .i64 (p : Int)] w fun e w' => e = .returned (.string ⟨(showT p n d).toArray⟩) ∧ Below w.heap.size w w' := by
  have H2 : Hid (∀ W, Below w.heap.size w W → NumV W 10 d p2) := fun W hW => h2.of_below hW
  have C69 : Hid (∀ W, Calls Tryd.prog 69 #[.int .i64 10] W fun e w' => (∃ v, e = .returned v ∧ NumV w' 10 10 v) ∧ Below W.heap.size W w') := fun W => refOf_any W 10 (by omega)
  have LN : Hid (∀ i, i ≤ p → (dg 10 (n * 10 ^ i)).length ≤ 6000) := fun i hi => by
    refine Nat.le_trans (dg_len_mul ten n (10 ^ i)) ?_
    have : (dg 10 (10 ^ i)).length ≤ i + 1 := dg_len_le ten _ _ (Nat.pow_lt_pow_right (by omega) (by omega))
    omega
  have C16 : Hid (∀ W i v v', i < p → NumV W 10 (n * 10 ^ i) v → NumV W 10 10 v' → Calls Tryd.prog 16 #[v, v'] W fun e w' => (∃ v, e = .returned v ∧ NumV w' 10 (n * 10 ^ (i + 1)) v) ∧ Below W.heap.size W w') := fun W i v v' hi g1 g2 => by
    have l10 : (dg 10 10).length ≤ 2 := dg_len_le ten 2 10 (by omega)
    have := refMulV g1 g2 (Nat.le_trans (LN.out i (by omega)) (by omega)) (by omega)
    rw [Nat.mul_assoc, ← Nat.pow_succ] at this
    exact this
  have C24 : Hid (∀ W v, Below w.heap.size w W → NumV W 10 (n * 10 ^ p) v → Calls Tryd.prog 24 #[v, p2] W fun e w' => (∃ u1 u2, e = .returned (.tuple #[u1, u2]) ∧ NumV w' 10 (n * 10 ^ p / d) u1 ∧ NumV w' 10 (n * 10 ^ p % d) u2) ∧ Below W.heap.size W w') := fun W v hW g => refDivV g (H2.out W hW) hd (Nat.le_trans (LN.out p (Nat.le_refl _)) (by omega)) (by omega)
  have LQ : Hid ((dg 10 (n * 10 ^ p / d)).length ≤ 6000) := Nat.le_trans (dg_len_mono ten (Nat.div_le_self _ _)) (LN.out p (Nat.le_refl _))
  have C13 : Hid (∀ W v, p = 0 → NumV W 10 (n * 10 ^ p / d) v → Calls Tryd.prog 13 #[v] W fun e w' => e = .returned (.string ⟨(showT p n d).toArray⟩) ∧ Below W.heap.size W w') := fun W v h0 g => by
    have := refTextV g (Nat.le_trans LQ.out (by omega))
    subst h0
    unfold showT
    rw [if_pos rfl]
    rw [Nat.pow_zero, Nat.mul_one] at this
    exact this
  have ES : Hid (1 ≤ p → showL p (dg 10 (n * 10 ^ p / d)) = showT p n d) := fun h => showL_eq h (Nat.pos_of_ne_zero hd)
  have DM : Hid (∀ x ∈ dg 10 (n * 10 ^ p / d), x < 10) := dg_mem ten _
  generalize showT p n d = X at *
  generalize n * 10 ^ p / d = Q at *
  generalize n * 10 ^ p % d = R at *
  clear hd b1 b2 LN
  have N0 : Hid (NumV w 10 (n * 10 ^ 0) p1) := by show NumV _ _ _ _; rw [Nat.pow_zero, Nat.mul_one]; exact h1
  clear h1 h2
  go_enter Tryd.func43, Tryd.ntmps43
  go_wp2_with fail
  obtain ⟨U1, hU1⟩ : ∃ X, X = (w.alloc (.cells #[p1, p2] 43)) := ⟨_, rfl⟩
  have Jq : Hid (IHolds U1 w.heap.size 43 [p1, p2]) := by
    show IHolds _ _ _ _
    rw [hU1]
    exact IHolds.new _ _ _
  have B : Hid (Below w.heap.size w U1) := by
    show Below _ _ _
    rw [hU1]
    exact (Below.refl _ w).alloc (Nat.le_refl _) _
  have N1 : Hid (NumV U1 10 (n * 10 ^ 0) p1) := N0.out.of_below B.out
  rw [← hU1]
  clear hU1 N0
  go_loopg [5, 6] p (fun gk v5 v6 wr => ∃ (i : Nat) (v : Value), i + gk = p ∧ v6 = .int .i64 (i : Int) ∧ v = v5 ∧ NumV wr 10 (n * 10 ^ i) v ∧ IHolds wr w.heap.size 43 [p1, p2] ∧ Below w.heap.size w wr)
  case atStart => exact ⟨0, _, by omega, rfl, rfl, N1.out, Jq.out, B.out⟩
  case round =>
    obtain ⟨i, v, hi, rfl, rfl, nn, jj, bb⟩ := hrel
    clear Jq B N1
    have Nv : Hid (NumV wr 10 (n * 10 ^ i) v) := nn
    have Jq : Hid (IHolds wr w.heap.size 43 [p1, p2]) := jj
    have B : Hid (Below w.heap.size w wr) := bb
    clear nn jj bb
    by_cases hlt : i < p
    · have hlt' : (i : Int) < (p : Int) := by omega
      go_wp2_with fail
      refine (C69.out wr).mono ?_
      rintro e U2 ⟨⟨t, rfl, hv⟩, hb⟩
      have Nt : Hid (NumV U2 10 10 t) := hv
      clear hv
      replace B := aB B hb
      replace Jq := aJ Jq hb
      replace Nv := aN Nv hb
      clear hb
      go_wp2_with fail
      refine (C16.out U2 i v t hlt Nv.out Nt.out).mono ?_
      rintro e U3 ⟨⟨y, rfl, hv⟩, hb⟩
      have Ny : Hid (NumV U3 10 (n * 10 ^ (i + 1)) y) := hv
      clear hv
      replace B := aB B hb
      replace Jq := aJ Jq hb
      clear hb
      go_wp2_with fail
      go_roundg (gk - 1)
      case measure => omega
      case rel => exact ⟨i + 1, _, by omega, by go_num, rfl, Ny.out, Jq.out, B.out⟩
    · obtain rfl : i = p := by omega
      have hlt' : ¬ (i : Int) < (i : Int) := by omega
      obtain ⟨z0, z1⟩ := cJ Jq
      go_wp2_with fail
      clear z0 z1
      refine (C24.out wr v B.out Nv.out).mono ?_
      rintro e U2 ⟨⟨q, r, rfl, hv, hv'⟩, hb⟩
      have Nq : Hid (NumV U2 10 Q q) := hv
      clear hv hv'
      replace B := aB B hb
      clear hb Jq Nv
      by_cases h0 : i = 0
      · subst h0
        go_wp2_with fail
        refine (C13.out U2 q (by first | rfl | trivial) Nq.out).mono ?_
        rintro e U3 ⟨rfl, hb⟩
        replace B := aB B hb
        clear hb
        go_wp2_with fail
        go_ret
        exact ⟨rfl, B.out⟩
      · have h0' : ((i : Int) == 0) = false := beq_eq_false_iff_ne.2 (by omega)
        have EX := ES.out (by omega)
        obtain ⟨qa, qc, rfl, hqc, _⟩ := Nq.out
        have LQ' := LQ.out
        have RW : Hid (∀ W, Below U2.heap.size U2 W → Row W qa (dg 10 Q)) := fun W hW => by
          obtain ⟨a', c', e, _, r⟩ := Nq.out
          injection e with e1 e2 e3
          subst e1
          exact r.of_below hW
        have HX : Hid (showL i (dg 10 Q) = X) := EX
        clear EX Nq C13 C24 C16 C69 H2 ES
        generalize dg 10 Q = l at *
        go_wp2_with fail
        go_loopg [9, 10] (max i l.length) (fun gk v9 v10 wr => ∃ (k : Nat) (S : List UInt8), k + gk = max i l.length ∧ v10 = .int .i64 (k : Int) ∧ v9 = .string ⟨S.toArray⟩ ∧ S = showS i (padL i l) k ∧ Below U2.heap.size U2 wr)
        case atStart => exact ⟨0, [], by omega, rfl, rfl, by simp [showS, chars], Below.refl _ _⟩
        case round =>
          obtain ⟨k, S, hk, rfl, rfl, hS, bb⟩ := hrel
          have B2 : Hid (Below U2.heap.size U2 wr) := bb
          clear bb
          have hSl : S.length ≤ 6200 := by
            have := showS_len i (padL i l) k
            rw [← hS] at this
            omega
          have ho1 : ¬ 9223372036854775807 < 1 + S.length := by omega
          have ho2 : ¬ 9223372036854775807 < 1 + (1 + S.length) := by omega
          have ho3 : ¬ 9223372036854775807 < 2 + S.length := by omega
          have ho4 : ¬ 9223372036854775807 < 1 + (S.length + 1) := by omega
          by_cases hlt2 : k < max i l.length
          · have hm : k < (padL i l).length := by rw [padL_length]; exact hlt2
            have hg := padL_get i l k hm
            have hd10 : l.getD k 0 < 10 := by
              by_cases hkl : k < l.length
              · have : l.getD k 0 = l[k] := by simp [hkl]
                rw [this]
                exact DM.out _ (List.getElem_mem _)
              · have : l.getD k 0 = 0 := by rw [List.getD_eq_getElem?_getD, List.getElem?_eq_none (by omega)]; rfl
                rw [this]; omega
            have AT : Hid (∀ W, Below U2.heap.size U2 W → Calls Tryd.prog 54 #[.slice qa l.length qc, .int .i64 (k : Int)] W fun e w' => e = .returned (I (l.getD k 0)) ∧ w' = W) := fun W hW => at_any W qa l qc k (RW.out W hW)
            have SL : Hid (k < i → showS i (padL i l) (k + 1) = UInt8.ofNat (l.getD k 0 + 48) :: S) := fun h => by rw [hS, ← hg]; exact showS_low h hm
            have SD : Hid (k = i → showS i (padL i l) (k + 1) = UInt8.ofNat (l.getD k 0 + 48) :: 46 :: S) := fun h => by subst h; rw [hS, ← hg]; exact showS_dot hm
            have SH : Hid (i < k → showS i (padL i l) (k + 1) = UInt8.ofNat (l.getD k 0 + 48) :: S) := fun h => by rw [hS, ← hg]; exact showS_high h hm
            clear hg hm hS
            generalize l.getD k 0 = dg1 at *
            have hcv := one_byte wr dg1 hd10 _ rfl
            have B3 : Hid (Below U2.heap.size U2 (wr.alloc (.cells #[.int .u8 ((dg1 : Int) + 48)] 5))) := B2.out.alloc B2.out.size _
            rcases Nat.lt_trichotomy k i with hc | hc | hc
            · have c1 : (k : Int) < (i : Int) := by omega
              have c2 : ((k : Int) == (i : Int)) = false := beq_eq_false_iff_ne.2 (by omega)
              have HS : Hid (showS i (padL i l) (k + 1) = UInt8.ofNat (dg1 + 48) :: S) := SL.out hc
              clear SL SD SH
              go_wp2_with fail
              refine (AT.out wr B2.out).mono ?_
              rintro e U3 ⟨rfl, rfl⟩
              go_wp2_with fail
              go_roundg (gk - 1)
              case measure => omega
              case rel => exact ⟨k + 1, UInt8.ofNat (dg1 + 48) :: S, by omega, by go_num, by rw [ba_digit], HS.out.symm, B3.out⟩
            · subst hc
              have c3 : (k : Int) < (l.length : Int) := by omega
              have HS : Hid (showS k (padL k l) (k + 1) = UInt8.ofNat (dg1 + 48) :: 46 :: S) := SD.out rfl
              clear SL SD SH
              go_wp2_with fail
              refine (AT.out wr B2.out).mono ?_
              rintro e U3 ⟨rfl, rfl⟩
              go_wp2_with fail
              go_roundg (gk - 1)
              case measure => omega
              case rel => exact ⟨k + 1, UInt8.ofNat (dg1 + 48) :: 46 :: S, by omega, by go_num, by rw [ba_dot], HS.out.symm, B3.out⟩
            · have c1 : ¬ (k : Int) < (i : Int) := by omega
              have c2 : ((k : Int) == (i : Int)) = false := beq_eq_false_iff_ne.2 (by omega)
              have c3 : (k : Int) < (l.length : Int) := by omega
              have HS : Hid (showS i (padL i l) (k + 1) = UInt8.ofNat (dg1 + 48) :: S) := SH.out hc
              clear SL SD SH
              go_wp2_with fail
              refine (AT.out wr B2.out).mono ?_
              rintro e U3 ⟨rfl, rfl⟩
              go_wp2_with fail
              go_roundg (gk - 1)
              case measure => omega
              case rel => exact ⟨k + 1, UInt8.ofNat (dg1 + 48) :: S, by omega, by go_num, by rw [ba_digit], HS.out.symm, B3.out⟩
          · obtain rfl : k = max i l.length := by omega
            have c1 : ¬ ((max i l.length : Nat) : Int) < (i : Int) := by omega
            have c3 : ¬ ((max i l.length : Nat) : Int) < (l.length : Int) := by omega
            have BZ := aB B B2.out
            rw [showS_end] at hS
            by_cases hle : l.length ≤ i
            · have c4 : (l.length : Int) ≤ (i : Int) := by omega
              rw [if_pos hle] at hS
              have EX : X = 48 :: 46 :: S := by
                rw [← HX.out, hS]
                unfold showL
                rw [if_pos hle]
              clear hS HX
              subst EX
              generalize max i l.length = mm at *
              go_wp2_with fail
              go_ret
              exact ⟨congrArg (fun t => Ending.returned (.string t)) (ba_append [48, 46] S), BZ.out⟩
            · have c4 : ¬ (l.length : Int) ≤ (i : Int) := by omega
              rw [if_neg hle] at hS
              have EX : X = S := by rw [← HX.out, hS]
              clear hS HX
              subst EX
              generalize max i l.length = mm at *
              go_wp2_with fail
              go_ret
              exact ⟨rfl, BZ.out⟩
end Go.Proofs.YtnahindcgedbaaaDoor
