/- Numbers in bytes; the reference's Text. -/
import Derived.Test.YtohpbclofcflaaaGreatPlus
set_option linter.unusedSimpArgs false
set_option linter.unusedVariables false
namespace Go.Proofs.YtohpbclofcflaaaGreat
open Go.RowKit Go.Deep Go.PlainAid

/-- The k lowest bytes of a number, the highest first. -/
def beB : Nat → Nat → List UInt8
  | 0, _ => []
  | k + 1, N => UInt8.ofNat (N / 256 ^ k % 256) :: beB k N
theorem beB_length (N : Nat) : ∀ k, (beB k N).length = k
  | 0 => rfl
  | k + 1 => by simp [beB, beB_length N k]
theorem beB_get (N : Nat) : ∀ (k i : Nat) (h : i < (beB k N).length), (beB k N)[i] = UInt8.ofNat (N / 256 ^ (k - 1 - i) % 256)
  | 0, i, h => by simp [beB] at h
  | k + 1, 0, h => by simp [beB]
  | k + 1, i + 1, h => by
    have h' : i < (beB k N).length := by simp [beB] at h; exact h
    have := beB_get N k i h'
    simp only [beB, List.getElem_cons_succ]
    rw [this]
    congr 3
    rw [beB_length] at h'
    congr 1
    omega
theorem dg_getD {B : Nat} (hB : 2 ≤ B) : ∀ (i N : Nat), (dg B N).getD i 0 = N / B ^ i % B
  | 0, N => by
    by_cases h : N = 0
    · subst h; rw [dg_zero]; simp
    · rw [dg_pos hB h]; simp
  | i + 1, N => by
    by_cases h : N = 0
    · subst h; rw [dg_zero]; simp
    · rw [dg_pos hB h]
      have := dg_getD hB i (N / B)
      simp only [List.getD_cons_succ]
      rw [this, Nat.div_div_eq_div_mul, Nat.pow_succ, Nat.mul_comm B]
theorem byte_even (N j : Nat) : N / 65536 ^ j % 65536 % 256 = N / 256 ^ (2 * j) % 256 := by
  rw [Nat.pow_mul, show (256 : Nat) ^ 2 = 65536 from rfl]
  generalize N / 65536 ^ j = x
  omega
theorem byte_odd (N j : Nat) : N / 65536 ^ j % 65536 / 256 % 256 = N / 256 ^ (2 * j + 1) % 256 := by
  rw [Nat.pow_succ, Nat.pow_mul, show (256 : Nat) ^ 2 = 65536 from rfl, ← Nat.div_div_eq_div_mul]
  generalize N / 65536 ^ j = x
  omega
theorem byte_high {N i : Nat} (h : (dg 65536 N).length ≤ i / 2) : N / 256 ^ i % 256 = 0 := by
  have h1 := lt_pow_dg b16 N
  have h2 : 65536 ^ (dg 65536 N).length ≤ 65536 ^ (i / 2) := Nat.pow_le_pow_right (by omega) h
  have h3 : (65536 : Nat) ^ (i / 2) ≤ 256 ^ i := by
    rw [show (65536 : Nat) = 256 ^ 2 from rfl, ← Nat.pow_mul]
    exact Nat.pow_le_pow_right (by omega) (by omega)
  rw [Nat.div_eq_of_lt (by omega)]
/-- What is laid after i bytes, from the last one on. -/
def laidT (S i N : Nat) : List UInt8 := List.replicate (S - i) 0 ++ beB i N
theorem laidT_length {S i N : Nat} (h : i ≤ S) : (laidT S i N).length = S := by simp [laidT, beB_length]; omega
theorem ys_set (l : List UInt8) (t : Nat) (x : UInt8) (y : Int) (hy : y = (x.toNat : Int)) : (ys l).set t (.int .u8 y) = ys (l.set t x) := by
  subst hy; simp [ys, List.map_set]
theorem laidT_step {S i N x : Nat} (h : i < S) (hx : x = N / 256 ^ i % 256) : (ys (laidT S i N)).set (S - 1 - i) (.int .u8 (x : Int)) = ys (laidT S (i + 1) N) := by
  have hx2 : x < 256 := by omega
  rw [ys_set _ _ (UInt8.ofNat x) _ (by rw [UInt8.toNat_ofNat']; omega)]
  congr 1
  unfold laidT
  rw [List.set_append_left _ _ (by simp; omega)]
  have e : List.replicate (S - i) (0 : UInt8) = List.replicate (S - (i + 1)) 0 ++ [0] := by
    rw [← List.replicate_succ']
    congr 1
    omega
  rw [e, List.set_append_right _ _ (by simp; omega)]
  rw [show S - 1 - i - (List.replicate (S - (i + 1)) (0 : UInt8)).length = 0 by simp; omega]
  rw [List.append_assoc]
  simp [beB, hx]
theorem laidT_none {S i N : Nat} (h : i < S) (h0 : N / 256 ^ i % 256 = 0) : laidT S i N = laidT S (i + 1) N := by
  unfold laidT
  have e : List.replicate (S - i) (0 : UInt8) = List.replicate (S - (i + 1)) 0 ++ [0] := by
    rw [← List.replicate_succ']
    congr 1
    omega
  rw [e, List.append_assoc, beB, h0]
  rfl
set_option maxRecDepth 100000 in
set_option maxHeartbeats 2000000 in
theorem refText_any (w : World) (a : Option Addr) (cap n S : Nat) (h : Row w a (dg 65536 n)) (b : (dg 65536 n).length ≤ 1000000) (hS : S ≤ 100000) :
    Calls Tryz.prog 23 #[.slice a (dg 65536 n).length cap, .int .i64 (S : Int)] w fun e w' => e = .returned (.string ⟨(beB S n).toArray⟩) ∧ Below w.heap.size w w' := by
  have HG : Hid (∀ i, (dg 65536 n).getD i 0 = n / 65536 ^ i % 65536) := fun i => dg_getD b16 i n
  have HZ : Hid (∀ i, (dg 65536 n).length ≤ i / 2 → n / 256 ^ i % 256 = 0) := fun i h => byte_high h
  generalize dg 65536 n = l at *
  have HR : Hid (Row w a l) := h
  clear h
  have hmk := fun w => makeBytes (S : Int) S rfl (by omega) w
  go_enter Tryz.func23, Tryz.ntmps23
  go_wp2_with fail
  have q1 : Hid (IHolds (w.alloc (.cells (ys (List.replicate S 0)).toArray 5)) w.heap.size 5 (ys (laidT S 0 n))) := by
    show IHolds _ _ _ _
    have : laidT S 0 n = List.replicate S 0 := by simp [laidT, beB]
    rw [this]; exact IHolds.new w 5 _
  have q2 : Hid (Below w.heap.size w (w.alloc (.cells (ys (List.replicate S 0)).toArray 5))) := (Below.refl _ w).alloc (Nat.le_refl _) _
  clear hmk
  generalize w.alloc (.cells (ys (List.replicate S 0)).toArray 5) = W0 at *
  go_loopg [6] S (fun gk v6 wr => ∃ i : Nat, i + gk = S ∧ v6 = .int .i64 (i : Int) ∧ IHolds wr w.heap.size 5 (ys (laidT S i n)) ∧ Below w.heap.size w wr)
  case atStart => exact ⟨0, by omega, rfl, q1.out, q2.out⟩
  case round =>
    obtain ⟨i, hi, rfl, hI, hB⟩ := hrel
    clear q1 q2
    by_cases hlt : i < S
    · have il : (i : Int) < (S : Int) := by omega
      obtain ⟨j, hj⟩ : ∃ j, j = i / 2 := ⟨_, rfl⟩
      have hj9 : j ≤ 100000 := by omega
      have hi9 : i ≤ 100000 := by omega
      have kq : (i : Int) / 2 = (j : Int) := by omega
      have kq2 : (i : Int).tdiv 2 = (j : Int) := by rw [Int.tdiv_eq_ediv_of_nonneg (by omega)]; omega
      by_cases hjl : j < l.length
      · have jl : (j : Int) < (l.length : Int) := by omega
        obtain ⟨k2, o2, rfl, c2⟩ := HR.out.of_below hB j hjl
        have hg : l[j] = n / 65536 ^ j % 65536 := by
          have := HG.out j
          rw [List.getD_eq_getElem?_getD, List.getElem?_eq_getElem hjl] at this
          exact this
        have hu : l[j] < 65536 := by omega
        obtain ⟨p, hp⟩ : ∃ p, p = S - 1 - i := ⟨_, rfl⟩
        have hpi : (S : Int) - 1 - (i : Int) = (p : Int) := by omega
        have hpN' : (p : Int) < (S : Int) := by omega
        have hp9 : p ≤ 100000 := by omega
        have hcl : (ys (laidT S i n)).length = S := by rw [ys_length, laidT_length (by omega)]
        have hc0 : wr.cell? ⟨w.heap.size, p, none⟩ = some ((ys (laidT S i n))[p]'(by omega)) := hI.cell p (by omega)
        have hf0 : wr.frozen? ⟨w.heap.size, p, none⟩ = false := hI.frozen p
        have HI2 : Hid (∀ x : Nat, x = n / 256 ^ i % 256 → IHolds (wr.setCell ⟨w.heap.size, p, none⟩ (.int .u8 (x : Int))) w.heap.size 5 (ys (laidT S (i + 1) n))) := fun x hx => by
          have h1 := hI.set p (.int .u8 (x : Int))
          rw [hp, laidT_step hlt hx, ← hp] at h1
          exact h1
        have HB2 : Hid (∀ x : Nat, Below w.heap.size w (wr.setCell ⟨w.heap.size, p, none⟩ (.int .u8 (x : Int)))) := fun x => hB.setCell (Nat.le_refl _) _
        rcases Nat.mod_two_eq_zero_or_one i with hm | hm
        · have km : (i : Int) % 2 = 0 := by omega
          have km2 : (i : Int).tmod 2 = 0 := by rw [Int.tmod_eq_emod_of_nonneg (by omega)]; omega
          have hx := byte_even n j
          rw [← hg, show 2 * j = i by omega] at hx
          generalize (ys (laidT S i n))[p]'(by omega) = old at *
          generalize l[j] = u at *
          obtain ⟨x, ex⟩ : ∃ x, x = u % 256 := ⟨_, rfl⟩
          have I3 : Hid _ := HI2.out x (by omega)
          have B3 : Hid _ := HB2.out x
          have kx : (u : Int) % 256 = (x : Int) := by omega
          have kx2 : (u : Int).tmod 256 = (x : Int) := by rw [Int.tmod_eq_emod_of_nonneg (by omega)]; omega
          have hx8 : x < 256 := by omega
          clear hI hB hcl hp hg hx ex HI2 HB2 hj hm
          go_wp2_with fail
          go_roundg (gk - 1)
          case measure => omega
          case rel => exact ⟨i + 1, by omega, by go_num, I3.out, B3.out⟩
        · have km : (i : Int) % 2 = 1 := by omega
          have km2 : (i : Int).tmod 2 = 1 := by rw [Int.tmod_eq_emod_of_nonneg (by omega)]; omega
          have hx := byte_odd n j
          rw [← hg, show 2 * j + 1 = i by omega] at hx
          generalize (ys (laidT S i n))[p]'(by omega) = old at *
          generalize l[j] = u at *
          obtain ⟨v, ev⟩ : ∃ v, v = u / 256 := ⟨_, rfl⟩
          obtain ⟨x, ex⟩ : ∃ x, x = v % 256 := ⟨_, rfl⟩
          have I3 : Hid _ := HI2.out x (by rw [← hx, ex, ev])
          have B3 : Hid _ := HB2.out x
          have kv : (u : Int) / 256 = (v : Int) := by omega
          have kv2 : (u : Int).tdiv 256 = (v : Int) := by rw [Int.tdiv_eq_ediv_of_nonneg (by omega)]; omega
          have kx : (v : Int) % 256 = (x : Int) := by omega
          have kx2 : (v : Int).tmod 256 = (x : Int) := by rw [Int.tmod_eq_emod_of_nonneg (by omega)]; omega
          have hx8 : x < 256 := by omega
          have hv8 : v < 256 := by omega
          clear hI hB hcl hp hg hx ex ev HI2 HB2 hj hm
          go_wp2_with fail
          go_roundg (gk - 1)
          case measure => omega
          case rel => exact ⟨i + 1, by omega, by go_num, I3.out, B3.out⟩
      · have jl : ¬ (j : Int) < (l.length : Int) := by omega
        have e := laidT_none (N := n) hlt (HZ.out i (by omega))
        rw [e] at hI
        have I3 : Hid (IHolds wr w.heap.size 5 (ys (laidT S (i + 1) n))) := hI
        have B3 : Hid (Below w.heap.size w wr) := hB
        clear hI hB e hj
        go_wp2_with fail
        go_roundg (gk - 1)
        case measure => omega
        case rel => exact ⟨i + 1, by omega, by go_num, I3.out, B3.out⟩
    · obtain rfl : i = S := by omega
      have il : ¬ (i : Int) < (i : Int) := by omega
      have HB : Hid (Below w.heap.size w wr) := hB
      have e : laidT i i n = beB i n := by simp [laidT]
      rw [e] at hI
      have hcl := beB_length n i
      obtain ⟨X, hX⟩ : ∃ X, X = beB i n := ⟨_, rfl⟩
      have HX : Hid (X = beB i n) := hX
      rw [← hX] at hI hcl
      clear hX
      have hcv := run_convert_bytes_arg (P := Tryz.prog) wr 71 5 Tryz.underlying71 Tryz.underlying5 w.heap.size 0 i i (X.map fun x => (x.toNat : Int)) (by simpa using hcl) (fun k hk => by
        rw [Nat.zero_add, hI.cell k (by rw [ys_length]; omega)]
        simp [ys, List.getElem?_eq_getElem (show k < X.length by omega)]) 9 Tryz.underlying9
      rw [Lib.Lz.strOfNums_map] at hcv
      clear hI hB e hcl
      go_wp2_with fail
      go_ret
      exact ⟨by rw [← HX.out]; rfl, HB.out⟩
end Go.Proofs.YtohpbclofcflaaaGreat
