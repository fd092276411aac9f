/- The walk of heads: the first digits of two numbers. -/
import Derived.Test.YtlgcnjinmcgacaaDoorRows3
set_option linter.unusedSimpArgs false
set_option linter.unusedVariables false
namespace Go.Proofs.YtlgcnjinmcgacaaDoor
open Go.RowKit Go.Deep

/-- The first digits of a number. -/
def headN (l : List Nat) (t sc dv : Nat) : Nat := (l.getD (t + 2) 0 * 1000000000 + l.getD (t + 1) 0) * sc + l.getD t 0 / dv
theorem head_alg {x0 x1 x2 y z sc dv E L : Nat} (hsd : sc * dv = 1000000000) :
    L + E * (dv * y + z) + E * 1000000000 * x1 + E * 1000000000 * 1000000000 * x2 = ((x2 * 1000000000 + x1) * sc + y) * (dv * E) + (E * z + L) := by
  have k : (x2 * 1000000000 + x1) * sc * (dv * E) = (x2 * 1000000000 + x1) * (sc * dv) * E := by grind
  rw [Nat.add_mul, k, hsd]
  grind
theorem head_split (l : List Nat) (t sc dv : Nat) (hl : ∀ x ∈ l, x < 1000000000) (hlen : l.length ≤ t + 3) (hsd : sc * dv = 1000000000) (hdv : 0 < dv) :
    ∃ r, vl 1000000000 l = headN l t sc dv * (dv * 1000000000 ^ t) + r ∧ r < dv * 1000000000 ^ t := by
  have e0 := vl_take_succ 1000000000 l (t + 2)
  have e1 := vl_take_succ 1000000000 l (t + 1)
  have e2 := vl_take_succ 1000000000 l t
  rw [List.take_of_length_le hlen] at e0
  have h3 := vl_lt 1000000000 (l.take t) (fun d hd => hl d (List.mem_of_mem_take hd))
  have h4 : 1000000000 ^ (l.take t).length ≤ 1000000000 ^ t := Nat.pow_le_pow_right (by omega) (by rw [List.length_take]; omega)
  have hd := Nat.div_add_mod (l.getD t 0) dv
  have hm := Nat.mod_lt (l.getD t 0) hdv
  refine ⟨1000000000 ^ t * (l.getD t 0 % dv) + vl 1000000000 (l.take t), ?_, ?_⟩
  · have p1 : 1000000000 ^ (t + 1) = 1000000000 ^ t * 1000000000 := Nat.pow_succ _ _
    have p2 : 1000000000 ^ (t + 2) = 1000000000 ^ t * 1000000000 * 1000000000 := by rw [Nat.pow_succ, p1]
    rw [e0, e1, e2, p1, p2, headN]
    clear e0 e1 e2 p1 p2 h3 h4 hm hlen hl
    generalize l.getD (t + 2) 0 = x2 at *
    generalize l.getD (t + 1) 0 = x1 at *
    generalize l.getD t 0 / dv = y at *
    generalize l.getD t 0 % dv = z at *
    generalize l.getD t 0 = x0 at *
    rw [← hd]
    generalize 1000000000 ^ t = E at *
    generalize vl 1000000000 (l.take t) = L at *
    exact head_alg (x0 := 0) hsd
  · generalize l.getD t 0 % dv = z at *
    generalize 1000000000 ^ t = E at *
    have : E * (z + 1) ≤ E * dv := Nat.mul_le_mul_left _ hm
    have e : E * (z + 1) = E * z + E := by grind
    have e' : dv * E = E * dv := Nat.mul_comm _ _
    omega
theorem head_lt (l : List Nat) (t sc dv : Nat) (hl : ∀ x ∈ l, x < 1000000000) (hsd : sc * dv = 1000000000) (hdv : 0 < dv) (hx : l.getD (t + 2) 0 * sc < 1000000000) : headN l t sc dv < 1000000000000000000 := by
  unfold headN
  have b1 := getD_low (show 0 < 1000000000 by omega) hl (t + 1)
  have b0 := getD_low (show 0 < 1000000000 by omega) hl t
  generalize l.getD (t + 2) 0 = x2 at *
  generalize l.getD (t + 1) 0 = x1 at *
  generalize l.getD t 0 = x0 at *
  have h1 : x2 < dv := by
    have : x2 * sc < dv * sc := by rw [Nat.mul_comm dv sc, hsd]; exact hx
    exact Nat.lt_of_mul_lt_mul_right this
  have h2 : (x2 + 1) * sc ≤ 1000000000 := by rw [← hsd, Nat.mul_comm sc dv]; exact Nat.mul_le_mul_right _ h1
  have h3 : x0 / dv < sc := by rw [Nat.div_lt_iff_lt_mul hdv, hsd]; exact b0
  have h4 : (x2 * 1000000000 + x1 + 1) * sc ≤ ((x2 + 1) * 1000000000) * sc := Nat.mul_le_mul_right _ (by omega)
  have h5 : ((x2 + 1) * 1000000000) * sc = ((x2 + 1) * sc) * 1000000000 := by grind
  have h6 : (x2 * 1000000000 + x1 + 1) * sc = (x2 * 1000000000 + x1) * sc + sc := by grind
  omega

set_option maxRecDepth 100000 in
set_option maxHeartbeats 2000000 in
theorem heads1_any (w : World) (a : Option Addr) (cap : Nat) (l : List Nat) (bt bs t sc dv : Nat) (hr : Row w a l) (hl : ∀ x ∈ l, x < 1000000000) (ht : t ≤ 1000000) (hct : w.cell? ⟨bt, 0, none⟩ = some (.int .i64 ((t + 2 : Nat) : Int))) (hcs : w.cell? ⟨bs, 0, none⟩ = some (.int .i64 (sc : Int)))
    (hsd : sc * dv = 1000000000) (hdv : 0 < dv) (hb : headN l t sc dv < 1000000000000000000) :
    Calls Tryd.prog 129 #[.slice a l.length cap, .pointer (some ⟨bt, 0, none⟩), .pointer (some ⟨bs, 0, none⟩)] w fun e w' => e = .returned (.int .i64 (headN l t sc dv : Int)) ∧ ∃ j, w' = w.drewN j := by
  obtain ⟨T, hT⟩ : ∃ T, T = t + 2 := ⟨_, rfl⟩
  obtain ⟨T1, hT1⟩ : ∃ T1, T1 = t + 1 := ⟨_, rfl⟩
  have A2 : Hid (∀ j, Calls Tryd.prog 110 #[.slice a l.length cap, .int .i64 (T : Int)] (w.drewN j) fun e w' => e = .returned (I (l.getD (t + 2) 0)) ∧ w' = w.drewN j) := fun j => by rw [hT]; exact limb_any (w.drewN j) a l cap (t + 2) (hr.drew j)
  have A1 : Hid (∀ j, Calls Tryd.prog 110 #[.slice a l.length cap, .int .i64 (T1 : Int)] (w.drewN j) fun e w' => e = .returned (I (l.getD (t + 1) 0)) ∧ w' = w.drewN j) := fun j => by rw [hT1]; exact limb_any (w.drewN j) a l cap (t + 1) (hr.drew j)
  have A0 : Hid (∀ j, Calls Tryd.prog 110 #[.slice a l.length cap, .int .i64 (t : Int)] (w.drewN j) fun e w' => e = .returned (I (l.getD t 0)) ∧ w' = w.drewN j) := fun j => limb_any (w.drewN j) a l cap t (hr.drew j)
  have b2 := getD_low (show 0 < 1000000000 by omega) hl (t + 2)
  have b1 := getD_low (show 0 < 1000000000 by omega) hl (t + 1)
  have b0 := getD_low (show 0 < 1000000000 by omega) hl t
  rw [← hT] at hct
  unfold headN at *
  have t1 : (T : Int) - 1 = (T1 : Int) := by omega
  have t2 : (T : Int) - 2 = (t : Int) := by omega
  have hTb : T ≤ 1000002 := by omega
  have hsc : 0 < sc := by
    rcases Nat.eq_zero_or_pos sc with h0 | h0
    · rw [h0] at hsd; simp at hsd
    · exact h0
  have esc : (1000000000 : Int) / (sc : Int) = (dv : Int) := by
    have : 1000000000 / sc = dv := by rw [← hsd, Nat.mul_div_cancel_left _ hsc]
    rw [← this]; exact (Int.natCast_ediv 1000000000 sc).symm
  clear hT hT1 hr hl hsd
  generalize l.getD (t + 2) 0 = x2 at *
  generalize l.getD (t + 1) 0 = x1 at *
  generalize l.getD t 0 = x0 at *
  obtain ⟨p, hp⟩ : ∃ p, p = x2 * 1000000000 + x1 := ⟨_, rfl⟩
  have ep : (x2 : Int) * 1000000000 + (x1 : Int) = (p : Int) := by omega
  have pb : p < 1000000000000000000 := by omega
  rw [← hp] at hb ⊢
  obtain ⟨z, hz⟩ : ∃ z, z = p * sc := ⟨_, rfl⟩
  have ez : (p : Int) * (sc : Int) = (z : Int) := by rw [hz]; push_cast; rfl
  rw [← hz] at hb ⊢
  obtain ⟨y, hy⟩ : ∃ y, y = x0 / dv := ⟨_, rfl⟩
  have ey : (x0 : Int) / (dv : Int) = (y : Int) := by rw [hy]; exact (Int.natCast_ediv _ _).symm
  rw [← hy] at hb ⊢
  have hsc' : (0 : Int) < (sc : Int) := by omega
  have hdv' : (0 : Int) < (dv : Int) := by omega
  clear hp hz hy
  go_enter Tryd.func129, Tryd.ntmps129
  go_wp2_with fail
  go_quiet (first | (go_at_call_of 110 T1; exact Calls.quiet_of_same (A1.out _)) | (go_at_call_of 110 T; exact Calls.quiet_of_same (A2.out _)) | (go_at_call_of 110 t; exact Calls.quiet_of_same (A0.out _)))
  go_wp2_with fail
  go_ret
  exact ⟨ret_i (by push_cast; first | rfl | omega), _, rfl⟩

/-- Two numbers cut behind their first digits. -/
structure Cut (n o a b S n' o' : Nat) : Prop where
  en : n = a * S + n'
  eo : o = b * S + o'
  ln : n' < S
  lo : o' < S
  ha : a < 1000000000000000000
theorem Cut.le {n o a b S n' o' : Nat} (h : Cut n o a b S n' o') (hon : o ≤ n) : b ≤ a := by
  by_cases hc : b ≤ a
  · exact hc
  · exfalso
    have : (a + 1) * S ≤ b * S := Nat.mul_le_mul_right _ (by omega)
    have e : (a + 1) * S = a * S + S := by grind
    have h1 := h.en
    have h2 := h.eo
    have h3 := h.ln
    omega
theorem cut_of {n o t sc dv : Nat} (hon : o ≤ n) (hlen : (dg 1000000000 n).length = t + 3) (hsd : sc * dv = 1000000000) (hx : (dg 1000000000 n).getD (t + 2) 0 * sc < 1000000000) :
    ∃ S n' o', Cut n o (headN (dg 1000000000 n) t sc dv) (headN (dg 1000000000 o) t sc dv) S n' o' := by
  have hdv : 0 < dv := by
    rcases Nat.eq_zero_or_pos dv with h0 | h0
    · rw [h0] at hsd; simp at hsd
    · exact h0
  obtain ⟨r1, e1, l1⟩ := head_split (dg 1000000000 n) t sc dv (dg_mem bigBase n) (by omega) hsd hdv
  obtain ⟨r2, e2, l2⟩ := head_split (dg 1000000000 o) t sc dv (dg_mem bigBase o) (by have := dg_len_mono bigBase hon; omega) hsd hdv
  rw [vl_dg bigBase] at e1 e2
  exact ⟨_, r1, r2, e1, e2, l1, l2, head_lt _ t sc dv (dg_mem bigBase n) hsd hdv hx⟩
theorem ten_dvd (k : Nat) (hk : k ≤ 9) : 10 ^ k * 10 ^ (9 - k) = 1000000000 := by
  rw [← Nat.pow_add, show k + (9 - k) = 9 by omega]

set_option maxRecDepth 100000 in
set_option maxHeartbeats 4000000 in
theorem heads_any (w : World) (a1 a2 : Option Addr) (cap1 cap2 n o t : Nat) (h1 : Row w a1 (dg 1000000000 n)) (h2 : Row w a2 (dg 1000000000 o)) (ht : t ≤ 1000000) (hlen : (dg 1000000000 n).length = t + 3) (hon : o ≤ n) :
    Calls Tryd.prog 117 #[.slice a1 (dg 1000000000 n).length cap1, .slice a2 (dg 1000000000 o).length cap2] w fun e w' => (∃ a b S n' o' : Nat, e = .returned (.tuple #[.int .i64 (a : Int), .int .i64 (b : Int)]) ∧ Cut n o a b S n' o') ∧ Below w.heap.size w w' := by
  have HCUT : Hid (∀ sc dv, sc * dv = 1000000000 → (dg 1000000000 n).getD (t + 2) 0 * sc < 1000000000 → ∃ S n' o', Cut n o (headN (dg 1000000000 n) t sc dv) (headN (dg 1000000000 o) t sc dv) S n' o') := fun sc dv g1 g2 => cut_of hon hlen g1 g2
  have HD1 : Hid (∀ d ∈ dg 1000000000 n, d < 1000000000) := dg_mem bigBase n
  have HD2 : Hid (∀ d ∈ dg 1000000000 o, d < 1000000000) := dg_mem bigBase o
  have htop : (dg 1000000000 n).getD (t + 2) 0 ≠ 0 := by
    rcases dg_topped bigBase n with h | h
    · rw [h] at hlen; simp at hlen
    · rw [hlen] at h; exact h
  generalize dg 1000000000 n = l1 at *
  generalize dg 1000000000 o = l2 at *
  have H1 : Hid (Row w a1 l1) := h1
  have H2 : Hid (Row w a2 l2) := h2
  have hx9 := getD_low (show 0 < 1000000000 by omega) HD1.out (t + 2)
  obtain ⟨bb, oo, rfl, ccx⟩ := h1 0 (by omega)
  clear ccx
  have HX : Hid (∀ W, Below w.heap.size w W → W.cell? ⟨bb, oo + (t + 2), none⟩ = some (I (l1.getD (t + 2) 0))) := fun W hW => (h1.of_below hW).cellAt (t + 2) (by omega)
  clear h1 h2
  generalize hxx : l1.getD (t + 2) 0 = x at *
  clear hxx
  have hl1 : (l1.length : Int) - 1 = ((t + 2 : Nat) : Int) := by omega
  have HLl : Hid (l1.length = t + 3) := hlen
  obtain ⟨T, hT⟩ : ∃ T, T = t + 2 := ⟨_, rfl⟩
  rw [← hT] at hl1 HX
  have HT : Hid (T = t + 2) := hT
  have hTl : T < l1.length := by omega
  have hTl' : (T : Int) < (l1.length : Int) := by omega
  have hlb : l1.length ≤ 1000003 := by omega
  clear hlen hT
  go_enter Tryd.func117, Tryd.ntmps117
  go_wp2_with fail
  obtain ⟨W0, hW0⟩ : ∃ W0, W0 = (w.alloc (.cells #[.int .i64 (T : Int)] 3)).alloc (.cells #[.int .i64 1] 2) := ⟨_, rfl⟩
  have q1 : Hid (IHolds W0 w.heap.size 3 [.int .i64 (T : Int)]) := by rw [hW0]; exact (IHolds.new w 3 [.int .i64 (T : Int)]).alloc _
  have q2 : Hid (IHolds W0 (w.heap.size + 1) 2 [.int .i64 1]) := by
    rw [hW0]
    have := IHolds.new (w.alloc (.cells #[.int .i64 (T : Int)] 3)) 2 [.int .i64 1]
    rw [World.size_alloc] at this
    exact this
  have q3 : Hid (Below w.heap.size w W0) := by rw [hW0]; exact ((Below.refl _ w).alloc (Nat.le_refl _) _).alloc (by simp) _
  rw [← hW0]
  clear hW0
  have bne : Hid (w.heap.size ≠ w.heap.size + 1) := by show ¬ _; omega
  go_loopg [] 9 (fun gk wr => ∃ (k sc : Nat), k + gk = 9 ∧ sc = 10 ^ k ∧ x * sc < 1000000000 ∧ IHolds wr (w.heap.size + 1) 2 [.int .i64 (sc : Int)] ∧ IHolds wr w.heap.size 3 [.int .i64 (T : Int)] ∧ Below w.heap.size w wr)
  case atStart => exact ⟨0, 1, rfl, rfl, by omega, q2.out, q1.out, q3.out⟩
  case round =>
    obtain ⟨k, sc, hk, hsc, hxs, hIs, hIt, hB⟩ := hrel
    clear q1 q2 q3
    have HSC : Hid (sc = 10 ^ k) := hsc
    have hscp : 0 < sc := by rw [hsc]; exact Nat.pow_pos (by omega)
    have hsc9 : sc ≤ 1000000000 := by
      have : 1 * sc ≤ x * sc := Nat.mul_le_mul_right _ (by omega)
      omega
    clear hsc
    have ct : wr.cell? ⟨w.heap.size, 0, none⟩ = some (.int .i64 (T : Int)) := hIt.cell 0 (by simp)
    have cs : wr.cell? ⟨w.heap.size + 1, 0, none⟩ = some (.int .i64 (sc : Int)) := hIs.cell 0 (by simp)
    have fs : wr.frozen? ⟨w.heap.size + 1, 0, none⟩ = false := hIs.frozen 0
    have cx := HX.out wr hB
    have HIs : Hid (IHolds wr (w.heap.size + 1) 2 [.int .i64 (sc : Int)]) := hIs
    have HIt : Hid (IHolds wr w.heap.size 3 [.int .i64 (T : Int)]) := hIt
    have HB : Hid (Below w.heap.size w wr) := hB
    clear hIs hIt hB
    obtain ⟨z, hz⟩ : ∃ z, z = x * sc := ⟨_, rfl⟩
    have ez : (x : Int) * (sc : Int) = (z : Int) := by rw [hz]; push_cast; rfl
    have HZ : Hid (z = x * sc) := hz
    rw [← hz] at hxs
    clear hz
    by_cases hc : z < 100000000
    · have hc' : (z : Int) < 100000000 := by omega
      have hk9 : k < 9 := by
        by_cases h9 : k < 9
        · exact h9
        · exfalso
          have e9 : k = 9 := by omega
          have h1 := HSC.out
          rw [e9] at h1
          have h2 := HZ.out
          have h3 : 1 * sc ≤ x * sc := Nat.mul_le_mul_right _ (by omega)
          omega
      go_wp2_with fail
      go_quiet (fail)
      have ct1 : (wr.drewN nq).cell? ⟨w.heap.size, 0, none⟩ = some (.int .i64 (T : Int)) := ct
      have cs1 : (wr.drewN nq).cell? ⟨w.heap.size + 1, 0, none⟩ = some (.int .i64 (sc : Int)) := cs
      have fs1 : (wr.drewN nq).frozen? ⟨w.heap.size + 1, 0, none⟩ = false := fs
      have HIs1 : IHolds (wr.drewN nq) (w.heap.size + 1) 2 [.int .i64 (sc : Int)] := HIs.out
      have HIt1 : IHolds (wr.drewN nq) w.heap.size 3 [.int .i64 (T : Int)] := HIt.out
      have HB1 : Below w.heap.size w (wr.drewN nq) := ⟨HB.out.os, HB.out.tape, HB.out.output, HB.out.size, HB.out.block⟩
      have S1 : Hid (IHolds ((wr.drewN nq).setCell ⟨w.heap.size + 1, 0, none⟩ (.int .i64 ((sc : Int) * 10))) (w.heap.size + 1) 2 [.int .i64 ((sc : Int) * 10)]) := HIs1.set 0 _
      have S2 : Hid (IHolds ((wr.drewN nq).setCell ⟨w.heap.size + 1, 0, none⟩ (.int .i64 ((sc : Int) * 10))) w.heap.size 3 [.int .i64 (T : Int)]) := HIt1.of_but ((But.refl _ _).setCell _ _) bne.out
      have S3 : Hid (Below w.heap.size w ((wr.drewN nq).setCell ⟨w.heap.size + 1, 0, none⟩ (.int .i64 ((sc : Int) * 10)))) := HB1.setCell (by show w.heap.size ≤ w.heap.size + 1; omega) _
      clear ct cs fs HIs HIt HB HIs1 HIt1 HB1 cx
      go_wp2_with fail
      go_roundg (gk - 1)
      case measure => omega
      case rel => exact ⟨k + 1, sc * 10, by omega, by rw [HSC.out, Nat.pow_succ], by have := HZ.out; rw [← Nat.mul_assoc, ← this]; omega, S1.out, S2.out, S3.out⟩
    · have hc' : ¬ (z : Int) < 100000000 := by omega
      have hk9 : k ≤ 9 := by omega
      have hsd : sc * 10 ^ (9 - k) = 1000000000 := by rw [HSC.out]; exact ten_dvd k hk9
      obtain ⟨S, n', o', hcut⟩ := HCUT.out sc (10 ^ (9 - k)) hsd (by rw [← HZ.out]; exact hxs)
      have HCU : Hid (Cut n o (headN l1 t sc (10 ^ (9 - k))) (headN l2 t sc (10 ^ (9 - k))) S n' o') := hcut
      have ha := hcut.ha
      have hb2 := hcut.le hon
      have HA : Hid (∀ W, IHolds W (w.heap.size + 1) 2 [.int .i64 (sc : Int)] → IHolds W w.heap.size 3 [.int .i64 (T : Int)] → Below w.heap.size w W → Calls Tryd.prog 129 #[.slice (some ⟨bb, oo, none⟩) l1.length cap1, .pointer (some ⟨w.heap.size, 0, none⟩), .pointer (some ⟨w.heap.size + 1, 0, none⟩)] W fun e w' => e = .returned (.int .i64 (headN l1 t sc (10 ^ (9 - k)) : Int)) ∧ ∃ j, w' = W.drewN j) := fun W g1 g2 g3 =>
        heads1_any W _ cap1 l1 w.heap.size (w.heap.size + 1) t sc (10 ^ (9 - k)) (H1.out.of_below g3) HD1.out ht (by rw [← HT.out]; exact g2.cell 0 (by simp)) (g1.cell 0 (by simp)) hsd (Nat.pow_pos (by omega)) ha
      have HB2 : Hid (∀ W, IHolds W (w.heap.size + 1) 2 [.int .i64 (sc : Int)] → IHolds W w.heap.size 3 [.int .i64 (T : Int)] → Below w.heap.size w W → Calls Tryd.prog 129 #[.slice a2 l2.length cap2, .pointer (some ⟨w.heap.size, 0, none⟩), .pointer (some ⟨w.heap.size + 1, 0, none⟩)] W fun e w' => e = .returned (.int .i64 (headN l2 t sc (10 ^ (9 - k)) : Int)) ∧ ∃ j, w' = W.drewN j) := fun W g1 g2 g3 =>
        heads1_any W _ cap2 l2 w.heap.size (w.heap.size + 1) t sc (10 ^ (9 - k)) (H2.out.of_below g3) HD2.out ht (by rw [← HT.out]; exact g2.cell 0 (by simp)) (g1.cell 0 (by simp)) hsd (Nat.pow_pos (by omega)) (by omega)
      clear hcut ha hb2 hsd
      generalize headN l1 t sc (10 ^ (9 - k)) = ga at *
      generalize headN l2 t sc (10 ^ (9 - k)) = gb at *
      go_wp2_with fail
      go_quiet (fail)
      have I1 : Hid (IHolds (wr.drewN nq) (w.heap.size + 1) 2 [.int .i64 (sc : Int)]) := HIs.out
      have I2 : Hid (IHolds (wr.drewN nq) w.heap.size 3 [.int .i64 (T : Int)]) := HIt.out
      have I3 : Hid (Below w.heap.size w (wr.drewN nq)) := ⟨HB.out.os, HB.out.tape, HB.out.output, HB.out.size, HB.out.block⟩
      clear ct cs fs HIs HIt HB cx
      generalize wr.drewN nq = w1 at *
      have hcd : decide ((z : Int) < 100000000) = false := decide_eq_false (by omega)
      rw [hcd]
      clear hc hc' hcd
      have hmf : ∀ (fn : Fn) (first cap : Array Value) (w : World), (Instr.makeFunc fn first cap).run Tryd.prog w = .ok (.func fn first cap) w := fun _ _ _ _ => rfl
      go_wp2_with fail
      refine (HA.out w1 I1.out I2.out I3.out).mono ?_
      rintro e w2 ⟨rfl, j, rfl⟩
      have I4 : Hid (Below w.heap.size w (w1.drewN j)) := ⟨I3.out.os, I3.out.tape, I3.out.output, I3.out.size, I3.out.block⟩
      go_wp2_with fail
      refine (HB2.out (w1.drewN j) I1.out I2.out I4.out).mono ?_
      rintro e w3 ⟨rfl, j2, rfl⟩
      have I5 : Hid (Below w.heap.size w ((w1.drewN j).drewN j2)) := ⟨I3.out.os, I3.out.tape, I3.out.output, I3.out.size, I3.out.block⟩
      generalize (w1.drewN j).drewN j2 = w4 at *
      go_wp2_with fail
      go_ret2
      exact ⟨⟨ga, gb, S, n', o', rfl, HCU.out⟩, I5.out⟩
end Go.Proofs.YtlgcnjinmcgacaaDoor
