/- The program's numbers of four words; their text. -/
import Derived.Test.YtohpbclofcflaaaGreatBytes
set_option linter.unusedSimpArgs false
set_option linter.unusedVariables false
namespace Go.Proofs.YtohpbclofcflaaaGreat
open Go.RowKit Go.Deep Go.PlainAid

/-- A word. -/
abbrev U (x : Nat) : Value := .int .u64 (x : Int)
def us (l : List Nat) : List Value := l.map U
theorem us_length (l : List Nat) : (us l).length = l.length := by simp [us]
/-- The byte at a place, out of its word. -/
theorem byte_word (ws : List Nat) (hw : ∀ x ∈ ws, x < 18446744073709551616) (p : Nat) : ws.getD (p / 8) 0 / 2 ^ (p % 8 * 8) % 256 = vl 18446744073709551616 ws / 256 ^ p % 256 := by
  have hB : 2 ≤ 18446744073709551616 := by omega
  have hg : ws.getD (p / 8) 0 = vl 18446744073709551616 ws / 18446744073709551616 ^ (p / 8) % 18446744073709551616 := by
    generalize p / 8 = q
    induction q generalizing ws with
    | zero =>
      cases ws with
      | nil => simp [vl]
      | cons x l =>
        have hx := hw x (by simp)
        simp only [List.getD_cons_zero, vl, Nat.pow_zero, Nat.div_one]
        omega
    | succ q ih =>
      cases ws with
      | nil => simp [vl]
      | cons x l =>
        have hx := hw x (by simp)
        have := ih l (fun y hy => hw y (by simp [hy]))
        simp only [List.getD_cons_succ, vl]
        rw [this, Nat.pow_succ, Nat.mul_comm (18446744073709551616 ^ q), ← Nat.div_div_eq_div_mul]
        rw [show (x + 18446744073709551616 * vl 18446744073709551616 l) / 18446744073709551616 = vl 18446744073709551616 l by omega]
  rw [hg]
  have e : 256 ^ p = 18446744073709551616 ^ (p / 8) * 2 ^ (p % 8 * 8) := by
    rw [show (18446744073709551616 : Nat) = 256 ^ 8 from rfl, ← Nat.pow_mul, Nat.mul_comm (p % 8) 8, Nat.pow_mul 2 8, show (2 : Nat) ^ 8 = 256 from rfl, ← Nat.pow_add]
    congr 1
    omega
  rw [e, ← Nat.div_div_eq_div_mul]
  generalize vl 18446744073709551616 ws / 18446744073709551616 ^ (p / 8) = y
  have hr : p % 8 < 8 := Nat.mod_lt _ (by omega)
  generalize p % 8 = r at *
  have : r = 0 ∨ r = 1 ∨ r = 2 ∨ r = 3 ∨ r = 4 ∨ r = 5 ∨ r = 6 ∨ r = 7 := by omega
  rcases this with rfl | rfl | rfl | rfl | rfl | rfl | rfl | rfl <;> simp only [Nat.reduceMul, Nat.reducePow] <;> omega
/-- What is laid after i bytes, from the first one on. -/
def topT (S i N : Nat) : List UInt8 := (beB S N).take i ++ List.replicate (S - i) 0
theorem topT_length {S i N : Nat} (h : i ≤ S) : (topT S i N).length = S := by simp [topT, beB_length]; omega
theorem topT_step {S i N x : Nat} (h : i < S) (hx : x = N / 256 ^ (S - 1 - i) % 256) : (ys (topT S i N)).set i (.int .u8 (x : Int)) = ys (topT S (i + 1) N) := by
  have hx2 : x < 256 := by omega
  rw [ys_set _ _ (UInt8.ofNat x) _ (by rw [UInt8.toNat_ofNat']; omega)]
  congr 1
  unfold topT
  have hl : i < (beB S N).length := by rw [beB_length]; exact h
  have g := beB_get N S i hl
  rw [List.set_append_right _ _ (by simp; omega)]
  rw [show i - ((beB S N).take i).length = 0 by simp; omega]
  have e : List.replicate (S - i) (0 : UInt8) = 0 :: List.replicate (S - (i + 1)) 0 := by
    rw [← List.replicate_succ]
    congr 1
    omega
  rw [e, List.take_succ_eq_append_getElem hl, g, ← hx, List.append_assoc]
  rfl
theorem IHolds.of_but {w w' : World} {b k : Nat} {t : TypeId} {l : List Value} (h : IHolds w k t l) (hb : But b w w') (hne : k ≠ b) : IHolds w' k t l := by
  have hl := h.lt
  unfold IHolds at *
  rw [hb.block k hl hne]; exact h
set_option maxRecDepth 100000 in
set_option maxHeartbeats 2000000 in
theorem text_any (w : World) (x0 x1 x2 x3 S : Nat) (h0 : x0 < 18446744073709551616) (h1 : x1 < 18446744073709551616) (h2 : x2 < 18446744073709551616) (h3 : x3 < 18446744073709551616) (hS : S ≤ 32) :
    Calls Tryz.prog 84 #[.agg #[U x0, U x1, U x2, U x3], .int .i64 (S : Int)] w fun e w' => e = .returned (.string ⟨(beB S (vl 18446744073709551616 [x0, x1, x2, x3])).toArray⟩) ∧ Below w.heap.size w w' := by
  have HW : Hid (∀ p, [x0, x1, x2, x3].getD (p / 8) 0 / 2 ^ (p % 8 * 8) % 256 = vl 18446744073709551616 [x0, x1, x2, x3] / 256 ^ p % 256) := fun p => byte_word _ (by intro x hx; simp at hx; omega) p
  have HL : Hid (∀ x ∈ [x0, x1, x2, x3], x < 18446744073709551616) := by show ∀ _, _; intro x hx; simp at hx; omega
  generalize vl 18446744073709551616 [x0, x1, x2, x3] = n at *
  have hmk := fun w => makeBytes (S : Int) S rfl (by omega) w
  go_enter Tryz.func84, Tryz.ntmps84
  go_wp2_with fail
  have q0 : Hid (IHolds ((w.alloc (.cells #[U x0, U x1, U x2, U x3] 81)).alloc (.cells (ys (List.replicate S 0)).toArray 5)) w.heap.size 81 (us [x0, x1, x2, x3])) := (IHolds.new w 81 (us [x0, x1, x2, x3])).alloc _
  have q1 : Hid (IHolds ((w.alloc (.cells #[U x0, U x1, U x2, U x3] 81)).alloc (.cells (ys (List.replicate S 0)).toArray 5)) (w.heap.size + 1) 5 (ys (topT S 0 n))) := by
    show IHolds _ _ _ _
    have : topT S 0 n = List.replicate S 0 := by simp [topT]
    rw [this]
    have q := IHolds.new (w.alloc (.cells #[U x0, U x1, U x2, U x3] 81)) 5 (ys (List.replicate S 0))
    rw [World.size_alloc] at q
    exact q
  have q2 : Hid (Below w.heap.size w ((w.alloc (.cells #[U x0, U x1, U x2, U x3] 81)).alloc (.cells (ys (List.replicate S 0)).toArray 5))) := ((Below.refl _ w).alloc (Nat.le_refl _) _).alloc (by simp) _
  clear hmk
  generalize (w.alloc (.cells #[U x0, U x1, U x2, U x3] 81)).alloc (.cells (ys (List.replicate S 0)).toArray 5) = W0 at *
  go_loopg [12] S (fun gk v12 wr => ∃ i : Nat, i + gk = S ∧ v12 = .int .i64 (i : Int) ∧ IHolds wr w.heap.size 81 (us [x0, x1, x2, x3]) ∧ IHolds wr (w.heap.size + 1) 5 (ys (topT S i n)) ∧ Below w.heap.size w wr)
  case atStart => exact ⟨0, by omega, rfl, q0.out, q1.out, q2.out⟩
  case round =>
    obtain ⟨i, hi, rfl, hA, hI, hB⟩ := hrel
    clear q0 q1 q2
    by_cases hlt : i < S
    · have il : (i : Int) < (S : Int) := by omega
      obtain ⟨p, hp⟩ : ∃ p, p = S - 1 - i := ⟨_, rfl⟩
      obtain ⟨q, hq⟩ : ∃ q, q = p / 8 := ⟨_, rfl⟩
      obtain ⟨r, hr⟩ : ∃ r, r = p % 8 := ⟨_, rfl⟩
      obtain ⟨t, ht⟩ : ∃ t, t = r * 8 := ⟨_, rfl⟩
      have kp : (S : Int) - 1 - (i : Int) = (p : Int) := by omega
      have kq : (p : Int) / 8 = (q : Int) := by omega
      have kq2 : (p : Int).tdiv 8 = (q : Int) := by rw [Int.tdiv_eq_ediv_of_nonneg (by omega)]; omega
      have kr : (p : Int) % 8 = (r : Int) := by omega
      have kr2 : (p : Int).tmod 8 = (r : Int) := by rw [Int.tmod_eq_emod_of_nonneg (by omega)]; omega
      have kt : (r : Int) * 8 = (t : Int) := by omega
      have p9 : p ≤ 31 := by omega
      have q9 : q ≤ 3 := by omega
      have r9 : r ≤ 7 := by omega
      have t9 : t ≤ 56 := by omega
      have i9 : i ≤ 31 := by omega
      have hc : wr.cell? ⟨w.heap.size, q, none⟩ = some (U ([x0, x1, x2, x3].getD q 0)) := by
        rw [hA.cell q (by rw [us_length]; simp; omega)]
        simp only [us, List.getElem_map]
        rw [List.getD_eq_getElem?_getD, List.getElem?_eq_getElem (by simp; omega)]
        rfl
      have hx := HW.out p
      rw [← hq, ← hr, ← ht] at hx
      have hu : [x0, x1, x2, x3].getD q 0 < 18446744073709551616 := by
        rw [List.getD_eq_getElem?_getD, List.getElem?_eq_getElem (by simp; omega)]
        exact HL.out _ (List.getElem_mem _)
      generalize [x0, x1, x2, x3].getD q 0 = u at *
      obtain ⟨y, hy⟩ : ∃ y, y = u / 2 ^ t := ⟨_, rfl⟩
      obtain ⟨x, hx2⟩ : ∃ x, x = y % 256 := ⟨_, rfl⟩
      have y9 : y < 18446744073709551616 := by rw [hy]; exact Nat.lt_of_le_of_lt (Nat.div_le_self _ _) hu
      have ky : (u : Int) / 2 ^ t = (y : Int) := by rw [hy]; norm_cast
      have ky2 : (u : Int) >>> t = (y : Int) := by rw [hy, Int.shiftRight_eq_div_pow]; norm_cast
      have kx : (y : Int) % 256 = (x : Int) := by omega
      have x9 : x < 256 := by omega
      have hcl : (ys (topT S i n)).length = S := by rw [ys_length, topT_length (by omega)]
      have hc0 : wr.cell? ⟨w.heap.size + 1, i, none⟩ = some ((ys (topT S i n))[i]'(by omega)) := hI.cell i (by omega)
      have hf0 : wr.frozen? ⟨w.heap.size + 1, i, none⟩ = false := hI.frozen i
      have I3 : Hid (IHolds (wr.setCell ⟨w.heap.size + 1, i, none⟩ (.int .u8 (x : Int))) (w.heap.size + 1) 5 (ys (topT S (i + 1) n))) := by
        have h1 := hI.set i (.int .u8 (x : Int))
        rw [topT_step hlt (show x = n / 256 ^ (S - 1 - i) % 256 by rw [← hp, ← hx, hx2, hy])] at h1
        exact h1
      have B3 : Hid (Below w.heap.size w (wr.setCell ⟨w.heap.size + 1, i, none⟩ (.int .u8 (x : Int)))) := hB.setCell (by show w.heap.size ≤ w.heap.size + 1; omega) _
      have A3 : Hid (IHolds (wr.setCell ⟨w.heap.size + 1, i, none⟩ (.int .u8 (x : Int))) w.heap.size 81 (us [x0, x1, x2, x3])) := hA.of_but ((But.refl _ wr).setCell i _) (by omega)
      generalize (ys (topT S i n))[i]'(by omega) = old at *
      clear hA hI hB hcl hp hq hr ht hx hy hx2
      go_wp2_with fail
      go_roundg (gk - 1)
      case measure => omega
      case rel => exact ⟨i + 1, by omega, by go_num, A3.out, I3.out, B3.out⟩
    · obtain rfl : i = S := by omega
      have il : ¬ (i : Int) < (i : Int) := by omega
      have HB : Hid (Below w.heap.size w wr) := hB
      have e : topT i i n = beB i n := by unfold topT; rw [Nat.sub_self, List.take_of_length_le (by rw [beB_length]; omega)]; simp
      rw [e] at hI
      have hcl := beB_length n i
      obtain ⟨X, hX⟩ : ∃ X, X = beB i n := ⟨_, rfl⟩
      have HX : Hid (X = beB i n) := hX
      rw [← hX] at hI hcl
      clear hX
      have hcv := run_convert_bytes_arg (P := Tryz.prog) wr 71 5 Tryz.underlying71 Tryz.underlying5 (w.heap.size + 1) 0 i i (X.map fun x => (x.toNat : Int)) (by simpa using hcl) (fun k hk => by
        rw [Nat.zero_add, hI.cell k (by rw [ys_length]; omega)]
        simp [ys, List.getElem?_eq_getElem (show k < X.length by omega)]) 9 Tryz.underlying9
      rw [Lib.Lz.strOfNums_map] at hcv
      clear hA hI hB e hcl
      go_wp2_with fail
      go_ret
      exact ⟨by rw [← HX.out]; rfl, HB.out⟩
end Go.Proofs.YtohpbclofcflaaaGreat
