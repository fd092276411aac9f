/- The numbers from 0 on. -/
import Derived.Test.YtelfcapjegncfaaBa
import Derived.Test.YtelfcapjegncfaaPa
set_option linter.unusedSimpArgs false
set_option linter.unusedVariables false
set_option maxRecDepth 100000
namespace Go.Proofs.Ytelfcapjegncfaa
open Go.RowKit Go.Deep Go.PlainAid

theorem lastGates25 {w : World} {a : Option Addr} {c n : Nat} (h1 : 1 ≤ n) (h : n ≤ 256) : Calls Try.prog 25 #[.slice a n c] w fun e w' => e = .returned (.int .i64 (((n - 1) / 2 : Nat) : Int)) ∧ w' = w := by
  obtain ⟨m, hm⟩ : ∃ m, m = n - 1 := ⟨_, rfl⟩
  have e1 : (n : Int) - 1 = (m : Int) := by omega
  obtain ⟨k, hk⟩ : ∃ k, k = m / 2 := ⟨_, rfl⟩
  have e2 : Int.tdiv (m : Int) 2 = (k : Int) := by rw [hk]; rfl
  have e3 : (n - 1) / 2 = k := by omega
  have hk2 : k ≤ 256 := by omega
  rw [e3]
  clear hm hk e3
  go_enter Try.func25, Try.ntmps25
  go_wp2_with fail
  go_ret
  exact ⟨rfl, rfl⟩
theorem odd27 {w : World} {a : Option Addr} {c n : Nat} (h : n ≤ 256) : Calls Try.prog 27 #[.slice a n c] w fun e w' => e = .returned (.bool (decide (n % 2 = 1))) ∧ w' = w := by
  obtain ⟨k, hk⟩ : ∃ k, k = n % 2 := ⟨_, rfl⟩
  have e2 : Int.tmod (n : Int) 2 = (k : Int) := by rw [hk]; rfl
  have e3 : decide (n % 2 = 1) = ((k : Int) == 1) := by
    rw [← hk]
    by_cases q : k = 1
    · subst q; rfl
    · have : ¬ (k : Int) = 1 := by omega
      simp [q, this]
  rw [e3]
  clear hk e3
  go_enter Try.func27, Try.ntmps27
  go_wp2_with fail
  go_ret
  exact ⟨rfl, rfl⟩
/-- Numbers up to i, behind them zeros. -/
def upz (i n : Nat) : List Nat := (List.range n).map fun j => if j < i then j else 0
theorem upz_len (i n : Nat) : (upz i n).length = n := by simp [upz]
theorem upz_zero (n : Nat) : upz 0 n = List.replicate n 0 := by
  apply List.ext_getElem
  · simp [upz]
  · intro j h1 h2; simp [upz]
theorem upz_all (n : Nat) : upz n n = List.range n := by
  apply List.ext_getElem
  · simp [upz]
  · intro j h1 h2
    simp only [upz, List.getElem_map, List.getElem_range]
    rw [if_pos]
    simpa [upz] using h1
theorem upz_set (i n : Nat) (h : i < n) : (ivs (upz i n)).set i (.int .i64 (i : Int)) = ivs (upz (i + 1) n) := by
  apply List.ext_getElem
  · simp [ivs, upz]
  · intro j h1 h2
    rw [List.getElem_set]
    simp only [ivs, upz, List.getElem_map, List.getElem_range]
    by_cases hij : i = j
    · subst hij; simp
    · rw [if_neg hij]
      congr 2
      by_cases hj : j < i
      · rw [if_pos hj, if_pos (by omega)]
      · rw [if_neg hj, if_neg (by omega)]
theorem make29 (z : Int) (n : Nat) (hz : z = (n : Int)) (hn : n ≤ 4294967296) (w : World) : (Instr.makeSlice 29 (.int .i64 z) (.int .i64 z)).run Try.prog w = .ok (.slice (some ⟨w.heap.size, 0, none⟩) n n) (w.alloc (.cells (ivs (upz 0 n)).toArray 3)) := by
  subst hz
  have := run_make_row' (P := Try.prog) 29 3 (.int .i64 0) 8 Try.underlying29 info3 rfl .i64 .i64 n (by omega) (by omega) w
  rw [this]
  have e : madeCells #[.int .i64 0] n = (ivs (upz 0 n)).toArray := by
    apply Array.toList_inj.1
    rw [toList_madeCells_one, upz_zero]
    simp [ivs]
  rw [e]
set_option maxHeartbeats 1000000 in
theorem upTo17 (w : World) (n : Nat) (hn : n ≤ 256) : Calls Try.prog 17 #[.int .i64 (n : Int)] w fun e w' => e = .returned (.slice (some ⟨w.heap.size, 0, none⟩) n n) ∧ IHolds w' w.heap.size 3 (ivs (List.range n)) ∧ Below w.heap.size w w' := by
  have hmk : (Instr.makeSlice 29 (.int .i64 (n : Int)) (.int .i64 (n : Int))).run Try.prog w = .ok (.slice (some ⟨w.heap.size, 0, none⟩) n n) (w.alloc (.cells (ivs (upz 0 n)).toArray 3)) := make29 _ n rfl (by omega) w
  have I0 : Hid (IHolds (w.alloc (.cells (ivs (upz 0 n)).toArray 3)) w.heap.size 3 (ivs (upz 0 n))) := IHolds.new _ _ _
  have B0 : Hid (Below w.heap.size w (w.alloc (.cells (ivs (upz 0 n)).toArray 3))) := (Below.refl _ _).alloc (Nat.le_refl _) _
  generalize hw0 : w.alloc (.cells (ivs (upz 0 n)).toArray 3) = w0 at *
  clear hw0
  go_enter Try.func17, Try.ntmps17
  go_wp2_with fail
  go_loopg [4, 9] n (fun gk v4 v9 wr => ∃ i : Nat, i + gk = n ∧ v9 = .int .i64 (i : Int) ∧ IHolds wr w.heap.size 3 (ivs (upz i n)) ∧ Below w.heap.size w wr)
  case atStart => exact ⟨0, by omega, rfl, I0.out, B0.out⟩
  case round =>
    obtain ⟨i, hig, rfl, hI, hB⟩ := hrel
    have I : Hid (IHolds wr w.heap.size 3 (ivs (upz i n))) := hI
    have B : Hid (Below w.heap.size w wr) := hB
    clear hI hB I0 B0 hmk
    by_cases hi : i < n
    · have il : (i : Int) < (n : Int) := by omega
      have hc := I.out.cell i (by rw [ivs_len, upz_len]; exact hi)
      have hf := I.out.frozen i
      have HI : Hid _ := I.out.set i (.int .i64 (i : Int))
      rw [upz_set i n hi] at HI
      have HB : Hid _ := B.out.setCell (p := ⟨_, i, none⟩) (Nat.le_refl _) (.int .i64 (i : Int))
      generalize (ivs (upz i n))[i]'(by rw [ivs_len, upz_len]; exact hi) = old at *
      go_wp2_with fail
      go_roundg (gk - 1)
      case measure => omega
      case rel => exact ⟨i + 1, by omega, by go_num, HI.out, HB.out⟩
    · have il : ¬ (i : Int) < (n : Int) := by omega
      have e : i = n := by omega
      have HI : Hid (IHolds wr w.heap.size 3 (ivs (List.range n))) := by
        have q := I.out
        rw [e, upz_all] at q
        exact q
      clear e
      go_wp2_with fail
      go_ret
      exact ⟨rfl, HI.out, B.out⟩
set_option maxHeartbeats 1000000 in
theorem upTo15 (w : World) (n : Nat) (hn : n ≤ 256) : Calls Try.prog 15 #[.int .i64 (n : Int)] w fun e w' => (∃ v, e = .returned v ∧ w'.ownsRow w.heap.size 3 1 v n (ivs (List.range n))) ∧ Below w.heap.size w w' := by
  obtain ⟨i0, hi0, hz0, hz1, hz2⟩ := info_parts info3
  go_enter Try.func15, Try.ntmps15
  go_wp2_with fail
  go_loopg [3, 4] n (fun gk v3 v4 wr => ∃ i : Nat, i + gk = n ∧ v4 = .int .i64 (i : Int) ∧ wr.ownsRow w.heap.size 3 1 v3 i (ivs (List.range i)) ∧ Below w.heap.size w wr)
  case atStart => exact ⟨0, by omega, rfl, World.ownsRow_nil _ _ _ _, Below.refl _ _⟩
  case round =>
    obtain ⟨i, hig, rfl, hO, hB⟩ := hrel
    have O : Hid (wr.ownsRow w.heap.size 3 1 u3 i (ivs (List.range i))) := hO
    have B : Hid (Below w.heap.size w wr) := hB
    clear hO hB
    by_cases hi : i < n
    · have il : (i : Int) < (n : Int) := by omega
      have O2 : Hid ((wr.alloc (.cells #[.int .i64 (i : Int)] 3)).ownsRow w.heap.size 3 1 u3 i (ivs (List.range i))) := O.out.alloc _
      have B2 : Hid (Below w.heap.size w (wr.alloc (.cells #[.int .i64 (i : Int)] 3))) := B.out.alloc B.out.size _
      have C2 : Hid _ := one_new wr (.int .i64 (i : Int)) 3
      have HR : Hid (ivs (List.range (i + 1)) = ivs (List.range i) ++ [.int .i64 (i : Int)]) := by
        show _ = _
        rw [List.range_succ, ivs_append]; rfl
      go_wp2_with (at_builtin; refine wpList_append_own _ rfl (.tmp 10) (.tmp 12) 29 rfl w.heap.size 3 i0 (.int .i64 0) 1 8 Try.underlying29 hi0 hz0 hz1 hz2 rfl (by decide) u3 i (ivs (List.range i)) rfl O2.out ⟨wr.heap.size, 0, none⟩ 1 1 [.int .i64 (i : Int)] rfl rfl C2.out (fun u hu => by simp at hu; subst hu; rfl) (by unfold maxLen; omega) (by omega) B2.out.size ?_; intro v5 w5 hown hgrow hn5; have O5 : Hid (w5.ownsRow w.heap.size 3 1 v5 (i + 1) (ivs (List.range i) ++ [.int .i64 (i : Int)])) := hown; have B5 : Hid (Below w.heap.size w w5) := B2.out.grown hgrow B2.out.size (fun k hk => (O2.out.lt k hk).1); clear hown hgrow hn5)
      go_roundg (gk - 1)
      case measure => omega
      case rel => exact ⟨i + 1, by omega, by go_num, by rw [HR.out]; exact O5.out, B5.out⟩
    · have il : ¬ (i : Int) < (n : Int) := by omega
      have e : i = n := by omega
      rw [e] at O
      clear e
      go_wp2_with fail
      go_ret
      exact ⟨⟨_, rfl, O.out⟩, B.out⟩
end Go.Proofs.Ytelfcapjegncfaa
