/- within, right, greatest. -/
import Derived.Test.YteomefhjglnghaaDoorShelf
import Derived.Test.YteomefhjglnghaaDoorPl
import Derived.Test.YteomefhjglnghaaDoorRows
import Derived.Lib.ItoaNum
import Derived.Lib.TrailingZeros
import Derived.Laws.BitsLemmas
import Derived.PlainAid
set_option linter.unusedSimpArgs false
set_option linter.unusedVariables false
set_option maxRecDepth 100000
namespace Go.Proofs.YteomefhjglnghaaDoor
open Go.RowKit Go.PlainAid

theorem within12 (w : World) (a b c : Int) (r : Bool) (hr : decide (0 ≤ a ∧ a ≤ b ∧ b ≤ c) = r) : Calls Tryd.prog 9 #[.int .i64 a, .int .i64 b, .int .i64 c] w fun e w' => e = .returned (.bool r) ∧ w' = w := by
  by_cases h1 : 0 ≤ a
  · by_cases h2 : a ≤ b
    · by_cases h3 : b ≤ c
      · have e : r = true := by rw [← hr, decide_eq_true ⟨h1, h2, h3⟩]
        subst e
        clear hr
        go_enter Tryd.func9, Tryd.ntmps9
        go_wp2_with fail
        go_ret
        exact ⟨rfl, rfl⟩
      · have e : r = false := by rw [← hr, decide_eq_false (fun q => h3 q.2.2)]
        subst e
        clear hr
        go_enter Tryd.func9, Tryd.ntmps9
        go_wp2_with fail
        go_ret
        exact ⟨rfl, rfl⟩
    · have e : r = false := by rw [← hr, decide_eq_false (fun q => h2 q.2.1)]
      subst e
      clear hr
      go_enter Tryd.func9, Tryd.ntmps9
      go_wp2_with fail
      go_ret
      exact ⟨rfl, rfl⟩
  · have e : r = false := by rw [← hr, decide_eq_false (fun q => h1 q.1)]
    subst e
    clear hr
    go_enter Tryd.func9, Tryd.ntmps9
    go_wp2_with fail
    go_ret
    exact ⟨rfl, rfl⟩
theorem right15 (w : World) (a b c : Int) (r : Bool) (hr : decide (0 ≤ a ∧ a ≤ b ∧ b ≤ c) = r) : Calls Tryd.prog 22 #[.int .i64 a, .int .i64 b, .int .i64 c] w fun e w' => e = .returned (.bool r) ∧ w' = w := by
  by_cases h1 : 0 ≤ a
  · by_cases h2 : a ≤ b
    · by_cases h3 : b ≤ c
      · have e : r = true := by rw [← hr, decide_eq_true ⟨h1, h2, h3⟩]
        subst e
        clear hr
        go_enter Tryd.func22, Tryd.ntmps22
        go_wp2_with fail
        go_ret
        exact ⟨rfl, rfl⟩
      · have e : r = false := by rw [← hr, decide_eq_false (fun q => h3 q.2.2)]
        subst e
        clear hr
        go_enter Tryd.func22, Tryd.ntmps22
        go_wp2_with fail
        go_ret
        exact ⟨rfl, rfl⟩
    · have e : r = false := by rw [← hr, decide_eq_false (fun q => h2 q.2.1)]
      subst e
      clear hr
      go_enter Tryd.func22, Tryd.ntmps22
      go_wp2_with fail
      go_ret
      exact ⟨rfl, rfl⟩
  · have e : r = false := by rw [← hr, decide_eq_false (fun q => h1 q.1)]
    subst e
    clear hr
    go_enter Tryd.func22, Tryd.ntmps22
    go_wp2_with fail
    go_ret
    exact ⟨rfl, rfl⟩
theorem low_and {lo v m : Nat} (h : lo ≤ 1048576) (e : lo = 2 ^ v * (2 * m + 1)) : bits .and .i64 (lo : Int) (-(lo : Int)) = ((2 ^ v : Nat) : Int) := by
  have hp : 1 ≤ 2 ^ v := Nat.one_le_two_pow
  have h0 : 1 ≤ lo := by rw [e]; exact Nat.mul_pos hp (by omega)
  have hv : 2 ^ v ≤ lo := by rw [e]; exact Nat.le_mul_of_pos_right _ (by omega)
  have h1 : (BitVec.ofInt 64 (lo : Int)).toNat = lo := by
    rw [BitVec.ofInt_natCast, BitVec.toNat_ofNat]; exact Nat.mod_eq_of_lt (by omega)
  have h2 : (BitVec.ofInt 64 (-(lo : Int))).toNat = 2 ^ 64 - lo := by
    rw [BitVec.toNat_ofInt]
    have : (-(lo : Int)) % ((2 ^ 64 : Nat) : Int) = ((2 ^ 64 - lo : Nat) : Int) := by omega
    rw [this, Int.toNat_natCast]
  show IntKind.i64.wrap ((BitVec.ofInt 64 (lo : Int) &&& BitVec.ofInt 64 (-(lo : Int))).toNat : Int) = _
  have h3 := Lib.and_neg 64 v m (by rw [← e]; omega)
  rw [← e] at h3
  rw [BitVec.toNat_and, h1, h2, h3, IntKind.wrap_i64]
  omega
theorem pow_wrap {a : Nat} (h : a ≤ 20) : wrap64 (2 ^ a) = ((2 ^ a : Nat) : Int) := by
  have : 2 ^ a ≤ 2 ^ 20 := Nat.pow_le_pow_right (by omega) h
  have e : ((2 : Int) ^ a) = ((2 ^ a : Nat) : Int) := by simp
  rw [e]
  clear e
  generalize (2 ^ a : Nat) = p at *
  unfold wrap64
  omega
theorem great_zero {a d : Nat} (ha : a ≤ 20) (h1 : 2 ^ a ≤ d) (h2 : d < 2 ^ (a + 1)) : down 20 d 0 = 2 ^ a := down_uniq ha h1 (Nat.zero_mod _) (fun q => by omega)
theorem great_min {a d lo v m : Nat} (ha : a ≤ 20) (h1 : 2 ^ a ≤ d) (h2 : d < 2 ^ (a + 1)) (e : lo = 2 ^ v * (2 * m + 1)) : down 20 d lo = min (2 ^ a) (2 ^ v) := by
  by_cases h : a ≤ v
  · rw [Nat.min_eq_left (Nat.pow_le_pow_right (by omega) h)]
    refine down_uniq ha h1 ?_ (fun q => by omega)
    rw [e]
    exact Nat.mod_eq_zero_of_dvd (Nat.dvd_trans (Nat.pow_dvd_pow 2 h) (Nat.dvd_mul_right _ _))
  · have hv : 2 ^ v ≤ 2 ^ a := Nat.pow_le_pow_right (by omega) (by omega)
    rw [Nat.min_eq_right hv]
    refine down_uniq (by omega) (Nat.le_trans hv h1) ?_ (fun q => ?_)
    · rw [e]; exact Nat.mul_mod_right _ _
    · rw [e] at q; exact low_not q.2
set_option maxHeartbeats 1000000 in
theorem greatest27 (w : World) (lo hi : Nat) (h : lo < hi) (hh : hi ≤ 1048576) (g : Nat) (hg : down 20 (hi - lo) lo = g) : Calls Tryd.prog 25 #[.int .i64 (lo : Int), .int .i64 (hi : Int)] w fun e w' => e = .returned (.int .i64 (g : Int)) ∧ w' = w := by
  obtain ⟨d, hd⟩ : ∃ d, d = hi - lo := ⟨_, rfl⟩
  have kd : (hi : Int) - (lo : Int) = (d : Int) := by omega
  have kd2 : (d : Int) % 18446744073709551616 = (d : Int) := by omega
  have hb := Lib.bitLenAux_bounds 64 d (by omega) (by omega)
  have hl : Lib.bitLenAux 64 d ≤ 21 := Lib.bitLenAux_le 64 d 21 (by omega)
  obtain ⟨a, ha⟩ : ∃ a, a + 1 = Lib.bitLen d := ⟨Lib.bitLen d - 1, by unfold Lib.bitLen; omega⟩
  have HL : Hid (∀ W, Calls Tryd.prog 34 #[.int .u64 (d : Int)] W fun e w' => e = .returned (.int .i64 ((a : Int) + 1)) ∧ w' = W) := fun W => by
    have q := Tryd.bits_Len (d : Int) W (by omega) (by omega)
    rw [Int.toNat_natCast, ← ha] at q
    exact q
  have ha20 : a ≤ 20 := by unfold Lib.bitLen at ha; omega
  have H1 : Hid (2 ^ a ≤ d ∧ d < 2 ^ (a + 1)) := by
    unfold Lib.bitLen at ha
    rw [← ha] at hb
    exact ⟨by simpa using hb.2.1, hb.2.2⟩
  have HG : Hid (down 20 d lo = g) := by show _ = _; rw [hd]; exact hg
  clear hb hl ha hg
  have HD : Hid (d = hi - lo) := hd
  clear hd
  by_cases h0 : lo = 0
  · subst h0
    have e : g = 2 ^ a := HG.out.symm.trans (great_zero ha20 H1.out.1 H1.out.2)
    subst e
    have ed : hi = d := by have := HD.out; omega
    subst ed
    have hw := pow_wrap ha20
    clear kd
    go_enter Tryd.func25, Tryd.ntmps25
    go_wp2_with (go_at_call 34; refine (HL.out _).mono ?_; rintro e w1 ⟨rfl, rfl⟩)
    go_ret
    exact ⟨by rw [← hw]; rfl, rfl⟩
  · have h0' : ((lo : Int) == 0) = false := by simp; omega
    obtain ⟨v, m, e⟩ := low_bit lo h0
    have HGE : Hid (g = min (2 ^ a) (2 ^ v)) := HG.out.symm.trans (great_min ha20 H1.out.1 H1.out.2 e)
    have HW : Hid (wrap64 (2 ^ a) = ((2 ^ a : Nat) : Int)) := pow_wrap ha20
    have HA : Hid (bits .and .i64 (lo : Int) (-(lo : Int)) = ((2 ^ v : Nat) : Int)) := low_and (by omega) e
    clear e
    go_enter Tryd.func25, Tryd.ntmps25
    go_wp2_with (go_at_call 34; refine (HL.out _).mono ?_; rintro e w1 ⟨rfl, rfl⟩)
    go_ret
    refine ⟨?_, rfl⟩
    show Ending.returned (Value.int IntKind.i64 (min (wrap64 (2 ^ a)) (bits BinOp.and IntKind.i64 (lo : Int) (-(lo : Int))))) = _
    rw [HW.out, HA.out, HGE.out]
    congr 2
    omega
end Go.Proofs.YteomefhjglnghaaDoor
