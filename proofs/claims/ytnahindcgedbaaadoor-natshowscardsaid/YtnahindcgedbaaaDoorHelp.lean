/- The walks of the laws' own helpers: small, sum, product; texts of numbers. -/
import Derived.Test.YtnahindcgedbaaaDoorFace
set_option linter.unusedSimpArgs false
set_option linter.unusedVariables false
namespace Go.Proofs.YtnahindcgedbaaaDoor
open Go.RowKit Go.Deep Go.PlainAid

/-- The text of a number. -/
def T (n : Nat) : ByteArray := ⟨(txt n).toArray⟩
theorem T_list (n : Nat) : (T n).data.toList = txt n := by simp [T]
theorem T_size (n : Nat) : (T n).size = (txt n).length := by rw [← size_list, T_list]
theorem T_bv (n : Nat) : bv (T n).data.toList = n := by rw [T_list, bv_txt]
theorem T_inj {n m : Nat} (h : T n = T m) : n = m := by
  have : txt n = txt m := by rw [← T_list, h, T_list]
  exact txt_inj this
theorem T_wr (n : Nat) (h : (txt n).length ≤ 4000) : wrT (T n) = 0 := wrT_ok (by rw [T_list]; exact isNum_txt n) (by rw [T_size]; omega)
theorem T_of (s : ByteArray) (h : isNum s.data.toList = true) : s = T (bv s.data.toList) := by
  have := txt_bv _ h
  cases s with
  | mk d => simp [T, this]
theorem T_lt (s : ByteArray) (k : Nat) (h : isNum s.data.toList = true) (hs : s.size ≤ k) : bv s.data.toList < 10 ^ k := by
  refine Nat.lt_of_lt_of_le (bv_lt _ (isNum_all h)) ?_
  rw [size_list]; exact Nat.pow_le_pow_right (by omega) hs

/-- Are all of them numbers of so many digits at most? -/
def smallB (k : Nat) (s : ByteArray) : Bool := isNum s.data.toList && decide (s.size ≤ k)
set_option maxRecDepth 100000 in
set_option maxHeartbeats 1000000 in
theorem small_any (w : World) (a : Option Addr) (cap K : Nat) (ps : List ByteArray) (hr : SRow w a ps) (hK : K ≤ 1000000) (hl : ps.length ≤ 1000000) (hs : ∀ s ∈ ps, s.size ≤ 4611686018427387904) :
    Calls Tryd.prog 44 #[.slice a ps.length cap, .int .i64 (K : Int)] w fun e w' => e = .returned (.bool (ps.all (smallB K))) ∧ w' = w := by
  have HS : Hid (∀ s ∈ ps, s.size ≤ 4611686018427387904) := hs
  have HR : Hid (SRow w a ps) := hr
  have W1 : Hid (∀ k (h : k < ps.length), smallB K ps[k] = false → ps.all (smallB K) = false) := fun k h hb => all_bad _ ps k h hb
  generalize hR : ps.all (smallB K) = R at *
  have HRR : Hid (ps.all (smallB K) = R) := hR
  clear hs hr hR
  go_enter Tryd.func44, Tryd.ntmps44
  go_wp2_with fail
  go_loop [9] (fun v => ∃ k : Nat, k ≤ ps.length ∧ v = .int .i64 k ∧ (ps.take k).all (smallB K) = true) (fun v => ps.length - (intOf v).toNat)
  case atStart => exact ⟨0, Nat.zero_le _, rfl, rfl⟩
  case round =>
    obtain ⟨k, hk, rfl, hd⟩ := hrel
    have HD : Hid ((ps.take k).all (smallB K) = true) := hd
    clear hd
    by_cases hlt : k < ps.length
    · have kl : (k : Int) < (ps.length : Int) := by omega
      obtain ⟨b, o, rfl, hc⟩ := HR.out k hlt
      have HC : Hid (∀ w, Calls Tryd.prog 68 #[.string ps[k]] w fun e w' => e = .returned (.bool (isNum ps[k].data.toList)) ∧ w' = w) := fun w => is_any ps[k] w (HS.out _ (List.getElem_mem _))
      have hsz := HS.out _ (List.getElem_mem hlt)
      have G1 : Hid (smallB K ps[k] = true → (ps.take (k + 1)).all (smallB K) = true) := fun h => all_take_succ _ ps k hlt HD.out h
      have G2 : Hid (smallB K ps[k] = false → R = false) := fun h => W1.out k hlt h
      generalize ps[k] = s at *
      cases hn : isNum s.data.toList with
      | false =>
        have hR := G2.out (by simp [smallB, hn])
        subst hR
        rw [hn] at HC
        clear G1 G2 hn
        go_wp2_with (go_at_call 68; refine (HC.out _).mono ?_; rintro e w' ⟨rfl, rfl⟩)
        go_ret
        exact ⟨rfl, rfl⟩
      | true =>
        rw [hn] at HC
        by_cases hz : s.size ≤ K
        · have HR2 : Hid ((ps.take (k + 1)).all (smallB K) = true) := G1.out (by simp [smallB, hn, hz])
          have hz' : ¬ (K : Int) < (s.size : Int) := by omega
          clear G1 G2 hn
          go_wp2_with (go_at_call 68; refine (HC.out _).mono ?_; rintro e w' ⟨rfl, rfl⟩)
          go_round
          case rel => exact ⟨k + 1, by omega, by go_num, HR2.out⟩
          case measure => simp [intOf]; omega
        · have hR := G2.out (by simp [smallB, hn, hz])
          subst hR
          have hz' : (K : Int) < (s.size : Int) := by omega
          clear G1 G2 hn
          go_wp2_with (go_at_call 68; refine (HC.out _).mono ?_; rintro e w' ⟨rfl, rfl⟩)
          go_ret
          exact ⟨rfl, rfl⟩
    · obtain rfl : k = ps.length := by omega
      have hR : R = true := by
        have := HD.out
        rw [List.take_length, HRR.out] at this
        exact this
      subst hR
      go_wp2_with fail
      go_ret
      exact ⟨rfl, rfl⟩
theorem small_one {ps : List ByteArray} {K : Nat} (h : ps.all (smallB K) = true) {s : ByteArray} (hs : s ∈ ps) : isNum s.data.toList = true ∧ s.size ≤ K := by
  have := (List.all_eq_true.1 h) s hs
  simpa [smallB] using this
/-- A row of texts that was just made. -/
theorem SRow.new (w : World) (t : TypeId) (ps : List ByteArray) : SRow (w.alloc (.cells (ps.map Value.string).toArray t)) (some ⟨w.heap.size, 0, none⟩) ps := by
  intro i hi
  refine ⟨w.heap.size, 0, rfl, ?_⟩
  have h0 : (w.alloc (.cells (ps.map Value.string).toArray t)).heap[w.heap.size]? = some (.cells (ps.map Value.string).toArray t) := by
    show (w.heap.push _)[w.heap.size]? = _
    simp
  generalize w.alloc (.cells (ps.map Value.string).toArray t) = W at *
  generalize w.heap.size = g at *
  simp [World.cell?, h0, hi]

set_option maxHeartbeats 400000 in
theorem lawSum_any (n m : Nat) (h1 : (txt n).length ≤ 4000) (h2 : (txt m).length ≤ 4000) (W : World) :
    Calls Tryd.prog 45 #[.string (T n), .string (T m)] W fun e w' => e = .returned (.string (T (n + m))) ∧ Below W.heap.size W w' := by
  have HC : Hid (Calls Tryd.prog 11 #[.string (T n), .string (T m)] W fun e w' => e = .returned (.tuple #[.string (T (n + m)), .int .i64 0]) ∧ Below W.heap.size W w') := by
    have := add_ok (T n) (T m) W (T_wr n h1) (T_wr m h2)
    rw [T_bv, T_bv] at this
    exact this
  generalize T (n + m) = X at *
  generalize T n = A at *
  generalize T m = B at *
  go_enter Tryd.func45, Tryd.ntmps45
  go_wp2_with fail
  refine HC.out.mono ?_
  rintro e w1 ⟨rfl, hb⟩
  go_wp2_with fail
  go_ret
  exact ⟨rfl, hb⟩

set_option maxHeartbeats 400000 in
theorem lawProduct_any (n m : Nat) (h1 : (txt n).length ≤ 4000) (h2 : (txt m).length ≤ 4000) (W : World) :
    Calls Tryd.prog 46 #[.string (T n), .string (T m)] W fun e w' => e = .returned (.string (T (n * m))) ∧ Below W.heap.size W w' := by
  have HC : Hid (Calls Tryd.prog 15 #[.string (T n), .string (T m)] W fun e w' => e = .returned (.tuple #[.string (T (n * m)), .int .i64 0]) ∧ Below W.heap.size W w') := by
    have := mul_ok (T n) (T m) W (T_wr n h1) (T_wr m h2)
    rw [T_bv, T_bv] at this
    exact this
  generalize T (n * m) = X at *
  generalize T n = A at *
  generalize T m = B at *
  go_enter Tryd.func46, Tryd.ntmps46
  go_wp2_with fail
  refine HC.out.mono ?_
  rintro e w1 ⟨rfl, hb⟩
  go_wp2_with fail
  go_ret
  exact ⟨rfl, hb⟩

theorem sub_T (n m : Nat) (h1 : (txt n).length ≤ 4000) (h2 : (txt m).length ≤ 4000) (hmn : m ≤ n) (W : World) :
    Calls Tryd.prog 19 #[.string (T n), .string (T m)] W fun e w' => e = .returned (.tuple #[.string (T (n - m)), .int .i64 0]) ∧ Below W.heap.size W w' := by
  have := sub_ok (T n) (T m) W (T_wr n h1) (T_wr m h2) (by rw [T_bv, T_bv]; exact hmn)
  rw [T_bv, T_bv] at this
  exact this
theorem zeroT : (⟨#[48]⟩ : ByteArray) = T 0 := rfl
theorem oneT : (⟨#[49]⟩ : ByteArray) = T 1 := by
  have : txt 1 = [49] := by simp [txt, dg_pos (show 2 ≤ 10 by omega) (show (1 : Nat) ≠ 0 by omega), dg_zero, chars]
  simp [T, this]
theorem twoT : (⟨#[50]⟩ : ByteArray) = T 2 := by
  have : txt 2 = [50] := by simp [txt, dg_pos (show 2 ≤ 10 by omega) (show (2 : Nat) ≠ 0 by omega), dg_zero, chars]
  simp [T, this]
theorem len_of_lt {n : Nat} (k : Nat) (hk : 1 ≤ k) (h : n < 10 ^ k) (h4 : k ≤ 4000) : (txt n).length ≤ 4000 := Nat.le_trans (txt_len_le n k hk h) h4
end Go.Proofs.YtnahindcgedbaaaDoor
