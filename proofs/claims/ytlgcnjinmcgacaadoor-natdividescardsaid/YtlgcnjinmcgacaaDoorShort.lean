/- The walks of a row's number, of short, and of the greatest divisor of short numbers. -/
import Derived.Test.YtlgcnjinmcgacaaDoorOverMany
set_option linter.unusedSimpArgs false
set_option linter.unusedVariables false
namespace Go.Proofs.YtlgcnjinmcgacaaDoor
open Go.RowKit Go.Deep

/-- Two puts one behind the other, whatever turns round on the way. -/
theorem puts_two {B k : Nat} {z l m p1 p2 : List Nat} {x y c1 c2 : Int} (h1 : Puts B z l x k p1 c1) (h2 : Puts B p1 m y k p2 c2) (hz : vl B z = 0) (hzl : z.length ≤ k) (hl : l.length ≤ k) (hm : m.length ≤ k) (R : Nat) (hR : (R : Int) = x * (vl B l : Int) + y * (vl B m : Int)) (hk : R < B ^ k) : vl B p2 = R := by
  have e1 := h1.eq
  have e2 := h2.eq
  rw [List.take_of_length_le hzl, List.take_of_length_le hl, hz] at e1
  rw [List.take_of_length_le (by rw [h1.len]; exact Nat.le_refl _), List.take_of_length_le hm] at e2
  have hp := vl_lt B p2 h2.low
  rw [h2.len] at hp
  have hB : (B : Int) ^ k = ((B ^ k : Nat) : Int) := by push_cast; rfl
  rw [hB] at e1 e2
  generalize B ^ k = M at *
  have e3 : (R : Int) = (vl B p2 : Int) + (c1 + c2) * (M : Int) := by
    rw [hR]
    simp only [Int.natCast_zero, Int.zero_add] at e1
    grind
  have hc : c1 + c2 = 0 := by
    rcases Int.lt_trichotomy (c1 + c2) 0 with hc | hc | hc
    · exfalso
      have : (c1 + c2) * (M : Int) ≤ (-1) * (M : Int) := Int.mul_le_mul_of_nonneg_right (by omega) (by omega)
      omega
    · exact hc
    · exfalso
      have : 1 * (M : Int) ≤ (c1 + c2) * (M : Int) := Int.mul_le_mul_of_nonneg_right (by omega) (by omega)
      omega
  rw [hc] at e3
  omega

set_option maxRecDepth 100000 in
set_option maxHeartbeats 2000000 in
theorem of_any (w : World) (a1 a2 : Option Addr) (cap1 cap2 n o R : Nat) (h x y : Int) (h1 : Row w a1 (dg 1000000000 n)) (h2 : Row w a2 (dg 1000000000 o)) (b1 : (dg 1000000000 n).length ≤ 1000000) (hon : o ≤ n) (hRn : R ≤ n)
    (hx : -1000000000 ≤ x ∧ x ≤ 1000000000) (hy : -1000000000 ≤ y ∧ y ≤ 1000000000) (hR : (R : Int) = x * (n : Int) + y * (o : Int)) :
    Calls Tryd.prog 96 #[.agg #[.int .i64 h, .int .i64 x, .int .i64 y], .slice a1 (dg 1000000000 n).length cap1, .slice a2 (dg 1000000000 o).length cap2] w fun e w' => (∃ v, e = .returned v ∧ NumV w' 1000000000 R v) ∧ Below w.heap.size w w' := by
  have hkl := dg_len_mono bigBase hon
  have HV1 : Hid (vl 1000000000 (dg 1000000000 n) = n) := vl_dg bigBase n
  have HV2 : Hid (vl 1000000000 (dg 1000000000 o) = o) := vl_dg bigBase o
  have HD1 : Hid (∀ d ∈ dg 1000000000 n, d < 1000000000) := dg_mem bigBase n
  have HD2 : Hid (∀ d ∈ dg 1000000000 o, d < 1000000000) := dg_mem bigBase o
  have HN1 : Hid (R < 1000000000 ^ (dg 1000000000 n).length) := Nat.lt_of_le_of_lt hRn (lt_pow_dg bigBase n)
  have HRe : Hid ((R : Int) = x * (n : Int) + y * (o : Int)) := hR
  clear hR
  generalize dg 1000000000 n = l1 at *
  generalize dg 1000000000 o = l2 at *
  have H1 : Hid (Row w a1 l1) := h1
  have H2 : Hid (Row w a2 l2) := h2
  have G1 : Hid (∀ g, w.heap.size ≤ g → l1 ≠ [] → Apart a1 g) := fun g hg hne k' o' he => by
    obtain ⟨b, o'', he', hc⟩ := h1 0 (List.length_pos_iff.2 hne)
    rw [he] at he'
    simp only [Option.some.injEq, Addr.mk.injEq] at he'
    have := World.block_lt_of_cell? _ _ hc
    simp at this; omega
  have G2 : Hid (∀ g, w.heap.size ≤ g → l2 ≠ [] → Apart a2 g) := fun g hg hne k' o' he => by
    obtain ⟨b, o'', he', hc⟩ := h2 0 (List.length_pos_iff.2 hne)
    rw [he] at he'
    simp only [Option.some.injEq, Addr.mk.injEq] at he'
    have := World.block_lt_of_cell? _ _ hc
    simp at this; omega
  clear h1 h2
  obtain ⟨K, hK, hmk⟩ : ∃ K : Nat, K = l1.length ∧ ∀ w, (Instr.makeSlice 67 (.int .i64 (l1.length : Int)) (.int .i64 (l1.length : Int))).run Tryd.prog w = .ok (.slice (some ⟨w.heap.size, 0, none⟩) K K) (w.alloc (.cells (zs (List.replicate K 0)).toArray 2)) :=
    ⟨l1.length, rfl, fun w => makeNum' _ _ rfl (by omega) w⟩
  have HK : Hid (K = l1.length) := hK
  clear hK
  go_enter Tryd.func96, Tryd.ntmps96
  go_wp2_with fail
  obtain ⟨W0, hW0⟩ : ∃ W0, W0 = w.alloc (.cells #[.int .i64 h, .int .i64 x, .int .i64 y] 112) := ⟨_, rfl⟩
  have x0 : W0.cell? ⟨w.heap.size, 1, none⟩ = some (.int .i64 x) := by rw [hW0]; simp
  have y0 : W0.cell? ⟨w.heap.size, 2, none⟩ = some (.int .i64 y) := by rw [hW0]; simp
  have B0 : Hid (Below w.heap.size w W0) := by rw [hW0]; exact (Below.refl _ w).alloc (Nat.le_refl _) _
  have s0 : W0.heap.size = w.heap.size + 1 := by rw [hW0]; simp
  rw [← hW0]
  have q1 : IHolds (W0.alloc (.cells (zs (List.replicate K 0)).toArray 2)) (w.heap.size + 1) 2 (zs (List.replicate K 0)) := by have := IHolds.new W0 2 (zs (List.replicate K 0)); rw [s0] at this; exact this
  have q2 : Below W0.heap.size W0 (W0.alloc (.cells (zs (List.replicate K 0)).toArray 2)) := (Below.refl _ W0).alloc (Nat.le_refl _) _
  have y1 : Hid ((W0.alloc (.cells (zs (List.replicate K 0)).toArray 2)).cell? ⟨w.heap.size, 2, none⟩ = some (.int .i64 y)) := by show _ = _; rw [q2.cell (show w.heap.size < W0.heap.size by omega)]; exact y0
  have B1 : Hid (Below w.heap.size w (W0.alloc (.cells (zs (List.replicate K 0)).toArray 2))) := B0.out.trans (q2.mono B0.out.size)
  have Q1 : Hid (IHolds (W0.alloc (.cells (zs (List.replicate K 0)).toArray 2)) (w.heap.size + 1) 2 (zs (List.replicate K 0))) := q1
  clear hW0 x0 y0 q1 q2 s0 hmk
  generalize W0.alloc (.cells (zs (List.replicate K 0)).toArray 2) = W1 at *
  have HL : Hid ((List.replicate K 0).length = K) := by show _ = _; simp
  have HLv : Hid (vl 1000000000 (List.replicate K 0) = 0) := vl_zeros _ _
  have HLd : Hid (∀ d ∈ List.replicate K 0, d < 1000000000) := fun d hd => by have := List.eq_of_mem_replicate hd; omega
  generalize List.replicate K 0 = L at *
  obtain rfl : K = L.length := HL.out.symm
  have hLl := HK.out
  refine (put_whole W1 (w.heap.size + 1) L.length 2 L a1 cap1 l1 x Q1.out (H1.out.of_below B1.out) (G1.out _ (by omega)) HLd.out HD1.out hx (by omega)).mono ?_
  rintro e W2 ⟨p1, c1, rfl, hp1, hI1, hB1⟩
  have y2 : W2.cell? ⟨w.heap.size, 2, none⟩ = some (.int .i64 y) := by rw [hB1.cell (World.block_lt_of_cell? _ _ y1.out) (by show w.heap.size ≠ _; omega)]; exact y1.out
  have B2 : Hid (Below w.heap.size w W2) := B1.out.trans (hB1.below B1.out.size (by omega))
  have HP1 : Hid (Puts 1000000000 L l1 x L.length p1 c1) := hp1
  have hpl := hp1.len
  have HI1 : Hid (IHolds W2 (w.heap.size + 1) 2 (zs p1)) := hI1
  have HPU : Hid (Calls Tryd.prog 89 #[.slice (some ⟨w.heap.size + 1, 0, none⟩) L.length L.length, .slice a2 l2.length cap2, .int .i64 y] W2 fun e w' => ∃ (p : List Nat) (c : Int), e = .returned (.int .i64 c) ∧ Puts 1000000000 p1 l2 y L.length p c ∧ IHolds w' (w.heap.size + 1) 2 (zs p) ∧ But (w.heap.size + 1) W2 w') := by
    have := put_whole W2 (w.heap.size + 1) L.length 2 p1 a2 cap2 l2 y hI1 (H2.out.of_below B2.out) (G2.out _ (by omega)) hp1.low HD2.out hy (by omega)
    rw [hpl] at this
    exact this
  clear hp1 hI1 hB1 y1 hLl
  go_wp2_with fail
  refine HPU.out.mono ?_
  rintro e W3 ⟨p2, c2, rfl, hp2, hI2, hB2⟩
  have hN : Hid (vl 1000000000 p2 = R) := puts_two HP1.out hp2 HLv.out (Nat.le_refl _) (by have := HK.out; omega) (by have := HK.out; omega) R (by rw [HV1.out, HV2.out]; exact HRe.out) (by rw [HK.out]; exact HN1.out)
  have hpl2 : Hid (p2.length = L.length) := hp2.len
  have HPd : Hid (∀ d ∈ p2, d < 1000000000) := hp2.low
  have HI2 : Hid (IHolds W3 (w.heap.size + 1) 2 (zs p2)) := hI2
  have B3 : Hid (Below w.heap.size w W3) := B2.out.trans (hB2.below B2.out.size (by omega))
  have hLb : L.length ≤ 1000000 := by have := HK.out; omega
  clear hp2 hI2 hB2 y2
  go_wp2_with fail
  refine (trimmed_at W3 (w.heap.size + 1) L.length L.length 2 p2 HI2.out hpl2.out (Nat.le_refl _) HPd.out (by omega)).mono ?_
  rintro e W4 ⟨⟨v, rfl, hv⟩, rfl⟩
  rw [hN.out] at hv
  have HVV : Hid (NumV W4 1000000000 R v) := hv
  clear hv
  go_wp2_with fail
  go_ret
  exact ⟨⟨_, rfl, HVV.out⟩, B3.out⟩

/-! ### Numbers of at most two limbs -/
theorem short_val (n : Nat) (h : (dg 1000000000 n).length ≤ 2) : (dg 1000000000 n).getD 1 0 * 1000000000 + (dg 1000000000 n).getD 0 0 = n := by
  have e := vl_dg bigBase n
  match hx : dg 1000000000 n, h with
  | [], _ => rw [hx] at e; simpa [vl] using e
  | [a], _ => rw [hx] at e; simpa [vl] using e
  | [a, b], _ => rw [hx] at e; simp [vl] at e ⊢; omega
set_option maxHeartbeats 400000 in
theorem short_any (w : World) (a : Option Addr) (cap n : Nat) (h : Row w a (dg 1000000000 n)) (hl : (dg 1000000000 n).length ≤ 2) :
    Calls Tryd.prog 120 #[.slice a (dg 1000000000 n).length cap] w fun e w' => e = .returned (.int .i64 (n : Int)) ∧ w' = w := by
  have A0 : Hid (Calls Tryd.prog 110 #[.slice a (dg 1000000000 n).length cap, .int .i64 0] w fun e w' => e = .returned (I ((dg 1000000000 n).getD 0 0)) ∧ w' = w) := limb_any w a _ cap 0 h
  have A1 : Hid (Calls Tryd.prog 110 #[.slice a (dg 1000000000 n).length cap, .int .i64 1] w fun e w' => e = .returned (I ((dg 1000000000 n).getD 1 0)) ∧ w' = w) := limb_any w a _ cap 1 h
  have e := short_val n hl
  have b0 := getD_low (show 0 < 1000000000 by omega) (dg_mem bigBase n) 0
  have b1 := getD_low (show 0 < 1000000000 by omega) (dg_mem bigBase n) 1
  have HE : Hid ((((dg 1000000000 n).getD 1 0 : Nat) : Int) * 1000000000 + (((dg 1000000000 n).getD 0 0 : Nat) : Int) = (n : Int)) := by show _ = _; omega
  clear h e
  generalize (dg 1000000000 n).getD 0 0 = x0 at *
  generalize (dg 1000000000 n).getD 1 0 = x1 at *
  generalize (dg 1000000000 n).length = k at *
  go_enter Tryd.func120, Tryd.ntmps120
  go_wp2_with fail
  refine A1.out.mono ?_
  rintro e w ⟨rfl, rfl⟩
  go_wp2_with fail
  refine A0.out.mono ?_
  rintro e w ⟨rfl, rfl⟩
  go_wp2_with fail
  go_ret
  exact ⟨ret_i HE.out, rfl⟩

set_option maxRecDepth 100000 in
set_option maxHeartbeats 1000000 in
theorem gcdOfShort_any (w : World) (a1 a2 : Option Addr) (cap1 cap2 n o : Nat) (h1 : Row w a1 (dg 1000000000 n)) (h2 : Row w a2 (dg 1000000000 o)) (b1 : (dg 1000000000 n).length ≤ 2) (b2 : (dg 1000000000 o).length ≤ 2) :
    Calls Tryd.prog 97 #[.slice a1 (dg 1000000000 n).length cap1, .slice a2 (dg 1000000000 o).length cap2] w fun e w' => (∃ v, e = .returned v ∧ NumV w' 1000000000 (Nat.gcd n o) v) ∧ Below w.heap.size w w' := by
  have A1 : Hid (Calls Tryd.prog 120 #[.slice a1 (dg 1000000000 n).length cap1] w fun e w' => e = .returned (.int .i64 (n : Int)) ∧ w' = w) := short_any w a1 cap1 n h1 b1
  have A2 : Hid (Calls Tryd.prog 120 #[.slice a2 (dg 1000000000 o).length cap2] w fun e w' => e = .returned (.int .i64 (o : Int)) ∧ w' = w) := short_any w a2 cap2 o h2 b2
  have n18 : n < 1000000000000000000 := by
    have := lt_pow_dg bigBase n
    have h3 : 1000000000 ^ (dg 1000000000 n).length ≤ 1000000000 ^ 2 := Nat.pow_le_pow_right (by omega) b1
    omega
  have o18 : o < 1000000000000000000 := by
    have := lt_pow_dg bigBase o
    have h3 : 1000000000 ^ (dg 1000000000 o).length ≤ 1000000000 ^ 2 := Nat.pow_le_pow_right (by omega) b2
    omega
  clear h1 h2 b1 b2
  generalize (dg 1000000000 n).length = k1 at *
  generalize (dg 1000000000 o).length = k2 at *
  generalize hg : Nat.gcd n o = g
  have HG : Hid (Nat.gcd n o = g) := hg
  clear hg
  go_enter Tryd.func97, Tryd.ntmps97
  go_wp2_with fail
  refine A1.out.mono ?_
  rintro e w ⟨rfl, rfl⟩
  go_wp2_with fail
  refine A2.out.mono ?_
  rintro e w ⟨rfl, rfl⟩
  clear A1 A2
  go_wp2_with fail
  go_loopg [5, 6] o (fun gk v5 v6 wr => ∃ a b : Nat, v5 = .int .i64 (a : Int) ∧ v6 = .int .i64 (b : Int) ∧ b = gk ∧ a < 1000000000000000000 ∧ b < 1000000000000000000 ∧ Nat.gcd a b = g ∧ ∃ j, wr = w.drewN j)
  case atStart => exact ⟨n, o, rfl, rfl, rfl, n18, o18, HG.out, 0, rfl⟩
  case round =>
    obtain ⟨a, b, rfl, rfl, hbg, ha, hb, hgc, j, hwr⟩ := hrel
    have HW : Hid (∃ j, wr = w.drewN j) := ⟨j, hwr⟩
    have HGC : Hid (Nat.gcd a b = g) := hgc
    have HBG : Hid (b = gk) := hbg
    clear hwr hgc hbg
    by_cases hb0 : b = 0
    · subst hb0
      have hag : a = g := by have := HGC.out; simpa using this
      have HB0 : Hid (Below w.heap.size w wr) := by obtain ⟨j, rfl⟩ := HW.out; exact below_drawn w j
      obtain ⟨r, hr⟩ : ∃ r, r = a % 1000000000 := ⟨_, rfl⟩
      obtain ⟨q, hq⟩ : ∃ q, q = a / 1000000000 := ⟨_, rfl⟩
      have er : (a : Int) % 1000000000 = (r : Int) := by omega
      have eq : (a : Int) / 1000000000 = (q : Int) := by omega
      have HVL : Hid (vl 1000000000 [r, q] = g) := by show _ = _; rw [← hag]; simp [vl]; omega
      have hr9 : r < 1000000000 := by omega
      have hq9 : q < 1000000000 := by omega
      clear hr hq hag
      go_wp2_with fail
      have q1 : Hid (IHolds (wr.alloc (.cells #[.int .i64 (r : Int), .int .i64 (q : Int)] 2)) wr.heap.size 2 (zs [r, q])) := IHolds.new wr 2 (zs [r, q])
      have q2 : Hid (Below wr.heap.size wr (wr.alloc (.cells #[.int .i64 (r : Int), .int .i64 (q : Int)] 2))) := (Below.refl _ wr).alloc (Nat.le_refl _) _
      generalize wr.alloc (.cells #[.int .i64 (r : Int), .int .i64 (q : Int)] 2) = W3 at *
      refine (trimmed_at W3 wr.heap.size 2 2 2 [r, q] q1.out rfl (Nat.le_refl _) (fun x hx => by simp at hx; omega) (by omega)).mono ?_
      rintro e W4 ⟨⟨v2, rfl, hv⟩, rfl⟩
      rw [HVL.out] at hv
      have HR : Hid (NumV W4 1000000000 g v2) := hv
      have HB2 : Hid (Below w.heap.size w W4) := HB0.out.trans (q2.out.mono HB0.out.size)
      clear hv
      go_wp2_with fail
      go_ret
      exact ⟨⟨v2, rfl, HR.out⟩, HB2.out⟩
    · have hb1 : ((b : Int) != 0) = true := bne_iff_ne.2 (by omega)
      have hbp : (0 : Int) < (b : Int) := by omega
      obtain ⟨m, hm⟩ : ∃ m, m = a % b := ⟨_, rfl⟩
      have em : (a : Int) % (b : Int) = (m : Int) := by rw [hm]; exact (Int.natCast_emod _ _).symm
      have hmb : m < b := by rw [hm]; exact Nat.mod_lt _ (by omega)
      have HG2 : Hid (Nat.gcd b m = g) := by show _ = _; rw [hm, ← HGC.out, Nat.gcd_comm a b, Nat.gcd_rec b a, Nat.gcd_comm]
      clear hm
      go_wp2_with fail
      go_quiet (fail)
      go_wp2_with fail
      go_roundg m
      case measure => have := HBG.out; omega
      case rel => exact ⟨b, m, rfl, by first | rfl | rw [em], rfl, by omega, by omega, HG2.out, drewN_ex HW.out nq⟩
end Go.Proofs.YtlgcnjinmcgacaaDoor
