/- The walk of times. -/
import Derived.Test.YtlgcnjinmcgacaaDoorArith
set_option linter.unusedSimpArgs false
set_option linter.unusedVariables false
namespace Go.Proofs.YtlgcnjinmcgacaaDoor
open Go.RowKit Go.Deep

/-- A list in three parts. -/
theorem three (P : List Nat) (j k : Nat) (h : j + k ≤ P.length) : P = P.take j ++ (P.drop j).take k ++ P.drop (j + k) := by
  rw [List.append_assoc, ← List.drop_drop, List.take_append_drop, List.take_append_drop]
theorem vl_three (B : Nat) (P : List Nat) (j k : Nat) (h : j + k ≤ P.length) : vl B P = vl B (P.take j) + B ^ j * (vl B ((P.drop j).take k) + B ^ k * vl B (P.drop (j + k))) := by
  have e := three P j k h
  have h1 : (P.take j).length = j := by rw [List.length_take]; omega
  have h2 : ((P.drop j).take k).length = k := by rw [List.length_take, List.length_drop]; omega
  have : vl B P = vl B (P.take j ++ ((P.drop j).take k ++ P.drop (j + k))) := by rw [← List.append_assoc, ← e]
  rw [this, vl_append, vl_append, h1, h2]
/-- One limb more of the other number: there is room for it, and what comes of it. -/
theorem times_room {B n x j k : Nat} {P : List Nat} (hB : 2 ≤ B) (hP : vl B P = n * x) (hx : x < B ^ j) (hn : n < B ^ k) (hl : j + (k + 1) ≤ P.length) (u : Nat) (hu : u < B) :
    vl B ((P.drop j).take (k + 1)) + u * n < B ^ (k + 1) := by
  have e := vl_three B P j (k + 1) hl
  have hpos : 0 < B ^ j := Nat.pow_pos (by omega)
  generalize vl B ((P.drop j).take (k + 1)) = a at *
  have h1 : B ^ j * a ≤ n * x := by
    rw [← hP, e, Nat.mul_add]; omega
  have h2 : a ≤ n := by
    by_cases hc : a ≤ n
    · exact hc
    · exfalso
      have h3 : B ^ j * (n + 1) ≤ B ^ j * a := Nat.mul_le_mul_left _ (by omega)
      have h4 : n * x ≤ n * B ^ j := Nat.mul_le_mul_left _ (by omega)
      have h5 : B ^ j * (n + 1) = n * B ^ j + B ^ j := by grind
      omega
  have h6 : u * n ≤ (B - 1) * n := Nat.mul_le_mul_right _ (by omega)
  have h7 : (B - 1) * n + n = B * n := by
    have : B - 1 + 1 = B := by omega
    calc (B - 1) * n + n = (B - 1 + 1) * n := by grind
      _ = B * n := by rw [this]
  have h8 : B * (n + 1) ≤ B * B ^ k := Nat.mul_le_mul_left _ hn
  have h9 : B ^ (k + 1) = B * B ^ k := by grind
  have h10 : B * (n + 1) = B * n + B := by grind
  omega
theorem times_step {B n x j k : Nat} {P p : List Nat} (hP : vl B P = n * x) (hl : j + (k + 1) ≤ P.length) (u : Nat) (hp : p.length = k + 1) (hv : vl B p = vl B ((P.drop j).take (k + 1)) + u * n) :
    vl B (P.take j ++ p ++ P.drop (j + (k + 1))) = n * (x + B ^ j * u) := by
  have e := vl_three B P j (k + 1) hl
  have h1 : (P.take j).length = j := by rw [List.length_take]; omega
  rw [List.append_assoc, vl_append, vl_append, h1, hp, hv]
  rw [hP] at e
  grind

/-- put into a part of a row. -/
theorem put_part (w : World) (b o k cap : Nat) (T : TypeId) (pre post : List Value) (l : List Nat) (a2 : Option Addr) (cap2 : Nat) (m : List Nat) (t : Int) (ho : pre.length = o) (hk : l.length = k)
    (hb : IHolds w b T (pre ++ zs l ++ post)) (hm : Row w a2 m) (ha : m ≠ [] → Apart a2 b) (hl : ∀ d ∈ l, d < 1000000000) (hmm : ∀ d ∈ m, d < 1000000000) (ht : -1000000000 ≤ t ∧ t ≤ 1000000000) (hn : k < 4611686018427387904) :
    Calls Tryd.prog 89 #[.slice (some ⟨b, o, none⟩) k cap, .slice a2 m.length cap2, .int .i64 t] w fun e w' => ∃ (p : List Nat) (c : Int), e = .returned (.int .i64 c) ∧ Puts 1000000000 l m t k p c ∧ IHolds w' b T (pre ++ zs p ++ post) ∧ But b w w' := by
  subst ho hk
  exact put_any w b cap T pre post l a2 cap2 m t hb hm ha hl hmm ht hn

set_option maxRecDepth 100000 in
set_option maxHeartbeats 1000000 in
theorem times_any (w : World) (a1 a2 : Option Addr) (cap1 cap2 n m : Nat) (h1 : Row w a1 (dg 1000000000 n)) (h2 : Row w a2 (dg 1000000000 m)) (b1 : (dg 1000000000 n).length ≤ 1000000) (b2 : (dg 1000000000 m).length ≤ 1000000) :
    Calls Tryd.prog 56 #[.slice a1 (dg 1000000000 n).length cap1, .slice a2 (dg 1000000000 m).length cap2] w fun e w' => (∃ v, e = .returned v ∧ NumV w' 1000000000 (n * m) v) ∧ Below w.heap.size w w' := by
  have HV1 : Hid (vl 1000000000 (dg 1000000000 n) = n) := vl_dg bigBase n
  have HV2 : Hid (vl 1000000000 (dg 1000000000 m) = m) := vl_dg bigBase m
  have HD1 : Hid (∀ d ∈ dg 1000000000 n, d < 1000000000) := dg_mem bigBase n
  have HD2 : Hid (∀ d ∈ dg 1000000000 m, d < 1000000000) := dg_mem bigBase m
  have HN1 : Hid (n < 1000000000 ^ (dg 1000000000 n).length) := lt_pow_dg bigBase n
  generalize dg 1000000000 n = l1 at *
  generalize dg 1000000000 m = l2 at *
  have H1 : Hid (Row w a1 l1) := h1
  have H2 : Hid (Row w a2 l2) := h2
  have HAp : Hid (l1 ≠ [] → Apart a1 w.heap.size) := fun h => h1.apart_new h
  clear h1 h2
  obtain ⟨K, hK, hmk⟩ : ∃ K : Nat, K = l1.length + l2.length ∧ ∀ w, (Instr.makeSlice 67 (.int .i64 ((l1.length : Int) + (l2.length : Int))) (.int .i64 ((l1.length : Int) + (l2.length : Int)))).run Tryd.prog w = .ok (.slice (some ⟨w.heap.size, 0, none⟩) K K) (w.alloc (.cells (zs (List.replicate K 0)).toArray 2)) :=
    ⟨l1.length + l2.length, rfl, fun w => makeNum' _ _ (by push_cast; rfl) (by omega) w⟩
  have HK : Hid (K = l1.length + l2.length) := hK
  have hk1 : K ≤ 2000000 := by omega
  clear hK
  go_enter Tryd.func56, Tryd.ntmps56
  go_wp2_with fail
  have q1 : Hid (IHolds (w.alloc (.cells (zs (List.replicate K 0)).toArray 2)) w.heap.size 2 (zs (List.replicate K 0))) := IHolds.new w 2 _
  have q2 : Hid (Below w.heap.size w (w.alloc (.cells (zs (List.replicate K 0)).toArray 2))) := (Below.refl _ w).alloc (Nat.le_refl _) _
  clear hmk
  generalize w.alloc (.cells (zs (List.replicate K 0)).toArray 2) = W0 at *
  go_loopg [16] l2.length (fun gk v16 wr => ∃ (i : Nat) (P : List Nat), i + gk = l2.length ∧ v16 = .int .i64 i ∧ P.length = K ∧ (∀ d ∈ P, d < 1000000000) ∧ vl 1000000000 P = n * vl 1000000000 (l2.take i) ∧ IHolds wr w.heap.size 2 (zs P) ∧ Below w.heap.size w wr)
  case atStart => exact ⟨0, List.replicate K 0, by omega, rfl, by simp, fun d hd => by have := List.eq_of_mem_replicate hd; omega, by rw [vl_zeros]; simp [vl], q1.out, q2.out⟩
  case round =>
    obtain ⟨i, P, hi, rfl, hPl, hPd, hPv, hPI, hPB⟩ := hrel
    by_cases hlt : i < l2.length
    · have il : (i : Int) < (l2.length : Int) := by omega
      obtain ⟨k2, o2, rfl, c2⟩ := H2.out.of_below hPB i hlt
      have hKe := HK.out
      have hlen : i + (l1.length + 1) ≤ P.length := by omega
      have hu : l2[i] < 1000000000 := HD2.out _ (List.getElem_mem _)
      have hxl : vl 1000000000 (l2.take i) < 1000000000 ^ i := by
        have := vl_lt 1000000000 (l2.take i) (fun d hd => HD2.out d (List.mem_of_mem_take hd))
        rwa [List.length_take, Nat.min_eq_left (by omega)] at this
      have hroom : Hid (vl 1000000000 ((P.drop i).take (l1.length + 1)) + l2[i] * n < 1000000000 ^ (l1.length + 1)) := times_room bigBase hPv hxl HN1.out hlen l2[i] hu
      have hst : Hid (∀ p : List Nat, p.length = l1.length + 1 → vl 1000000000 p = vl 1000000000 ((P.drop i).take (l1.length + 1)) + l2[i] * n → vl 1000000000 (P.take i ++ p ++ P.drop (i + (l1.length + 1))) = n * vl 1000000000 (l2.take (i + 1))) := fun p h1 h2 => by
        have e := vl_take_succ 1000000000 l2 i
        rw [List.getD_eq_getElem?_getD, List.getElem?_eq_getElem hlt] at e
        simp only [Option.getD_some] at e
        rw [e]; exact times_step hPv hlen l2[i] h1 h2
      have hthree := three P i (l1.length + 1) hlen
      have hpl : (P.take i).length = i := by rw [List.length_take]; omega
      have hql : ((P.drop i).take (l1.length + 1)).length = l1.length + 1 := by rw [List.length_take, List.length_drop]; omega
      have hqd : ∀ d ∈ (P.drop i).take (l1.length + 1), d < 1000000000 := fun d hd => hPd d (List.mem_of_mem_drop (List.mem_of_mem_take hd))
      have hIp : IHolds wr w.heap.size 2 (zs (P.take i) ++ zs ((P.drop i).take (l1.length + 1)) ++ zs (P.drop (i + (l1.length + 1)))) := by
        rw [← zs_append, ← zs_append, ← hthree]; exact hPI
      have hpd1 : ∀ d ∈ P.take i, d < 1000000000 := fun d hd => hPd d (List.mem_of_mem_take hd)
      have hpd2 : ∀ d ∈ P.drop (i + (l1.length + 1)), d < 1000000000 := fun d hd => hPd d (List.mem_of_mem_drop hd)
      have hdl : (P.drop (i + (l1.length + 1))).length = K - (i + (l1.length + 1)) := by rw [List.length_drop, hPl]
      have A1 : Hid (Row wr a1 l1) := H1.out.of_below hPB
      have HB : Hid (Below w.heap.size w wr) := hPB
      generalize P.take i = X at *
      generalize (P.drop i).take (l1.length + 1) = Y at *
      generalize P.drop (i + (l1.length + 1)) = Z at *
      have HI : Hid (IHolds wr w.heap.size 2 (zs X ++ zs Y ++ zs Z)) := hIp
      have HXl : Hid (X.length = i) := hpl
      have HYl : Hid (Y.length = l1.length + 1) := hql
      have HYd : Hid (∀ d ∈ Y, d < 1000000000) := hqd
      have HXd : Hid (∀ d ∈ X, d < 1000000000) := hpd1
      have HZd : Hid (∀ d ∈ Z, d < 1000000000) := hpd2
      have HZl : Hid (Z.length = K - (i + (l1.length + 1))) := hdl
      have kk : i + (l1.length + 1) ≤ K := by omega
      clear hpl hql hqd hpd1 hpd2 hdl hIp hthree hPv hPI hPB hPl hPd hxl hlen H1 H2 q1 q2 hKe
      generalize l2[i] = u at *
      go_wp2_with fail
      refine (put_part wr w.heap.size i (i + l1.length + 1 - i) (K - i) 2 (zs X) (zs Z) Y a1 cap1 l1 (u : Int) (by rw [zs_length, HXl.out]) (by rw [HYl.out]; omega) HI.out A1.out HAp.out HYd.out HD1.out (by omega) (by omega)).mono ?_
      rintro e W1 ⟨p, c, rfl, hp, hI2, hB⟩
      have hpl := hp.len
      have hp2 := hp.done (by rw [HYl.out]; omega) (by omega) (vl 1000000000 Y + u * n) (by rw [HV1.out]; push_cast; rfl) (by rw [show i + l1.length + 1 - i = l1.length + 1 by omega]; exact hroom.out)
      obtain ⟨rfl, hpv⟩ := hp2
      have G1 : Hid (vl 1000000000 (X ++ p ++ Z) = n * vl 1000000000 (l2.take (i + 1))) := hst.out p (by omega) hpv
      have G2 : Hid ((X ++ p ++ Z).length = K) := by
        show _ = _
        rw [List.length_append, List.length_append, HXl.out, HZl.out]; omega
      have G3 : Hid (∀ d ∈ X ++ p ++ Z, d < 1000000000) := fun d hd => by
        rcases List.mem_append.1 hd with hd | hd
        · rcases List.mem_append.1 hd with hd | hd
          · exact HXd.out d hd
          · exact hp.low d hd
        · exact HZd.out d hd
      have G4 : Hid (IHolds W1 w.heap.size 2 (zs (X ++ p ++ Z))) := by show IHolds _ _ _ _; rw [zs_append, zs_append]; exact hI2
      have G5 : Hid (Below w.heap.size w W1) := HB.out.trans (hB.below HB.out.size (Nat.le_refl _))
      clear hp hpv hI2 hB hpl c2
      go_wp2_with fail
      go_roundg (gk - 1)
      case measure => omega
      case rel => exact ⟨i + 1, X ++ p ++ Z, by omega, by go_num, G2.out, G3.out, G1.out, G4.out, G5.out⟩
    · obtain rfl : i = l2.length := by omega
      rw [List.take_length, HV2.out] at hPv
      have HP1 : Hid (vl 1000000000 P = n * m) := hPv
      have HP2 : Hid (∀ d ∈ P, d < 1000000000) := hPd
      have HP3 : Hid (IHolds wr w.heap.size 2 (zs P)) := hPI
      have HP4 : Hid (Below w.heap.size w wr) := hPB
      have HP5 : Hid (P.length = K) := hPl
      clear hPv hPd hPI hPB hPl q1 q2
      go_wp2_with fail
      refine (trimmed_at wr w.heap.size K K 2 P HP3.out HP5.out (Nat.le_refl _) HP2.out (by omega)).mono ?_
      rintro e W3 ⟨⟨v, rfl, hv⟩, rfl⟩
      rw [HP1.out] at hv
      have HVV : Hid (NumV W3 1000000000 (n * m) v) := hv
      clear hv
      go_wp2_with fail
      go_ret
      exact ⟨⟨_, rfl, HVV.out⟩, HP4.out⟩
end Go.Proofs.YtlgcnjinmcgacaaDoor
