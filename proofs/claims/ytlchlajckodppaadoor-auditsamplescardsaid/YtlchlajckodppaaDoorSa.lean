/- Sample on the program's side. -/
import Derived.Test.YtlchlajckodppaaDoorRefOf
import Derived.Test.YtlchlajckodppaaDoorFParts
import Derived.Test.YtlchlajckodppaaDoorFFrame
set_option linter.unusedSimpArgs false
set_option linter.unusedVariables false
set_option maxRecDepth 100000
namespace Go.Proofs.YtlchlajckodppaaDoor.F
open Go.RowKit
set_option maxHeartbeats 400000 in
theorem four10 (n : Nat) (hn : n < 9223372036854775808) (w : World) :
    Calls Tryd.prog 10 #[.int .i64 (n : Int)] w fun e w' => e = .returned (.string ⟨(fourL n).toArray⟩) ∧ Below w.heap.size w w' := by
  have hcv := four_convert n w
  have HB : Hid (Below w.heap.size w (w.alloc (.cells #[Value.int .u8 ((n : Int) / 16777216 % 256), Value.int .u8 ((n : Int) / 65536 % 256), Value.int .u8 ((n : Int) / 256 % 256), Value.int .u8 ((n : Int) % 256)] 5))) := (Below.refl _ w).alloc (Nat.le_refl _) _
  generalize fourL n = F4 at *
  go_enter Tryd.func10, Tryd.ntmps10
  go_wp2_with fail
  go_ret
  exact ⟨rfl, HB.out⟩
end Go.Proofs.YtlchlajckodppaaDoor.F
namespace Go.Proofs.YtlchlajckodppaaDoor
open Go.RowKit Go.Deep Go.PlainAid

/-- The tag of a label and parts. -/
def tgF (label : ByteArray) (ps : List ByteArray) : ByteArray := ⟨(F.digL (F.hK 0) (F.partsL (label :: ps))).toArray⟩
theorem tgF_size (l : ByteArray) (ps : List ByteArray) : (tgF l ps).size = 32 := by
  show (F.digL (F.hK 0) (F.partsL (l :: ps))).toArray.size = 32
  rw [List.size_toArray, F.digL_length]
def fourT (n : Nat) : ByteArray := ⟨(F.fourL n).toArray⟩
theorem fourT_size (n : Nat) : (fourT n).size = 4 := rfl
abbrev lab : ByteArray := ⟨#[115, 97, 109, 112, 108, 101]⟩
/-- The bytes that the i-th number is made of. -/
def smp (seed : ByteArray) (i : Nat) : ByteArray := tgF lab [seed, fourT i]
theorem smp_size (s : ByteArray) (i : Nat) : (smp s i).size = 32 := tgF_size _ _
/-- The number that bytes are. -/
def n256 (l : List UInt8) : Nat := l.foldl (fun a c => a * 256 + c.toNat) 0
theorem n256_snoc (l : List UInt8) (c : UInt8) : n256 (l ++ [c]) = n256 l * 256 + c.toNat := by simp [n256]
theorem n256_take (l : List UInt8) (i : Nat) (h : i < l.length) : n256 (l.take (i + 1)) = n256 (l.take i) * 256 + (l[i]'h).toNat := by
  rw [List.take_succ_eq_append_getElem h, n256_snoc]
theorem n256_lt' : ∀ (l : List UInt8) (a : Nat), l.foldl (fun a c => a * 256 + c.toNat) a < (a + 1) * 256 ^ l.length
  | [], a => by simp
  | c :: l, a => by
    have h := n256_lt' l (a * 256 + c.toNat)
    have hc := c.toNat_lt
    rw [List.foldl_cons, List.length_cons, Nat.pow_succ]
    refine Nat.lt_of_lt_of_le h ?_
    rw [Nat.mul_comm (256 ^ l.length), ← Nat.mul_assoc]
    exact Nat.mul_le_mul_right _ (by omega)
theorem n256_lt (l : List UInt8) : n256 l < 256 ^ l.length := by have := n256_lt' l 0; simpa [n256] using this
def sv (seed : ByteArray) (t i : Nat) : Nat := n256 (smp seed i).data.toList % t
def sL (seed : ByteArray) (t n : Nat) : List Nat := (List.range n).map (sv seed t)
theorem sL_length (seed : ByteArray) (t n : Nat) : (sL seed t n).length = n := by simp [sL]
theorem sL_succ (seed : ByteArray) (t n : Nat) : sL seed t (n + 1) = sL seed t n ++ [sv seed t n] := by simp [sL, List.range_succ]

set_option maxHeartbeats 400000 in
theorem within7 (n lo hi : Int) (w : World) : Calls Tryd.prog 7 #[.int .i64 n, .int .i64 lo, .int .i64 hi] w fun e w' => e = .returned (.bool (decide (lo ≤ n ∧ n ≤ hi))) ∧ w' = w := by
  by_cases h1 : lo ≤ n <;> by_cases h2 : n ≤ hi
  all_goals
    go_enter Tryd.func7, Tryd.ntmps7
    go_wp2_with fail
    go_ret
    exact ⟨by simp [h1, h2], rfl⟩

set_option maxHeartbeats 1000000 in
theorem modulo8 (s : ByteArray) (t : Nat) (ht : 0 < t) (ht2 : t ≤ 1048576) (hs : s.size ≤ 4096) (y : Nat) (hy : n256 s.data.toList % t = y) (w : World) :
    Calls Tryd.prog 8 #[.string s, .int .i64 (t : Int)] w fun e w' => e = .returned (.int .i64 (y : Int)) ∧ w' = w := by
  have HY : Hid (n256 s.data.toList % t = y) := hy
  clear hy
  have t0 : ((t : Int) == 0) = false := by simp; omega
  have HL : Hid (s.data.toList.length = s.size) := rfl
  go_enter Tryd.func8, Tryd.ntmps8
  go_wp2_with fail
  go_loopg [5, 9] s.size (fun gk v5 v9 wr => ∃ i : Nat, i + gk = s.size ∧ v9 = .int .i64 (i : Int) ∧ v5 = .int .i64 ((n256 (s.data.toList.take i) % t : Nat) : Int) ∧ wr = w)
  case atStart => exact ⟨0, by omega, rfl, by simp [n256], rfl⟩
  case round =>
    obtain ⟨i, hi, rfl, rfl, rfl⟩ := hrel
    have r9 : n256 (s.data.toList.take i) % t < 1048576 := Nat.lt_of_lt_of_le (Nat.mod_lt _ ht) ht2
    by_cases hp : i < s.size
    · have hp' : (i : Int) < (s.size : Int) := by omega
      have c9 : (s[i]'hp).toNat < 256 := (s[i]'hp).toNat_lt
      have HS : Hid (n256 (s.data.toList.take (i + 1)) % t = (n256 (s.data.toList.take i) % t * 256 + (s[i]'hp).toNat) % t) := by
        show _ = _
        rw [n256_take _ i hp, show (s.data.toList[i]'hp).toNat = (s[i]'hp).toNat from rfl]; simp only [Nat.add_mod, Nat.mul_mod, Nat.mod_mod]
      obtain ⟨c, hc⟩ : ∃ c, (s[i]'hp).toNat = c := ⟨_, rfl⟩
      have HC : Hid ((s[i]'hp).toNat = c) := hc
      rw [hc] at HS c9
      clear hc
      generalize n256 (s.data.toList.take i) % t = r at *
      have kr : ((r : Int) * 256 + (c : Int)).tmod (t : Int) = (((r * 256 + c) % t : Nat) : Int) := by rw [Int.tmod_eq_emod_of_nonneg (by omega), Int.natCast_emod]; rfl
      have z9 : (r * 256 + c) % t < 1048576 := Nat.lt_of_lt_of_le (Nat.mod_lt _ ht) ht2
      generalize (r * 256 + c) % t = z at *
      go_wp2_with fail
      go_roundg (gk - 1)
      case measure => omega
      case rel => exact ⟨i + 1, by omega, by go_num, by rw [HS.out, ← kr]; congr 1; rw [HC.out, show wrap64 ((r : Int) * 256 + wrap64 (c : Int)) = (r : Int) * 256 + (c : Int) by unfold RowKit.wrap64; omega], rfl⟩
    · have hp' : ¬ (i : Int) < (s.size : Int) := by omega
      obtain rfl : i = s.size := by omega
      have HE : Hid (s.data.toList.take s.size = s.data.toList) := List.take_of_length_le (Nat.le_of_eq HL.out)
      have HV : n256 (s.data.toList.take s.size) % t = y := by rw [HE.out]; exact HY.out
      rw [HV]
      clear HV HE HY
      go_wp2_with fail
      go_ret
      exact ⟨rfl, rfl⟩
end Go.Proofs.YtlchlajckodppaaDoor
