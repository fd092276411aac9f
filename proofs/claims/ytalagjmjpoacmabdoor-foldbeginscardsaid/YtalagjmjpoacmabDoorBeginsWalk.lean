/- The walk of the law FoldBegins. -/
import Derived.Test.YtalagjmjpoacmabDoorStream
set_option linter.unusedSimpArgs false
set_option linter.unusedVariables false
namespace Go.Proofs.YtalagjmjpoacmabDoor
open Go.RowKit

theorem stream_more {B : Nat → List UInt8} (hB : ∀ k, (B k).length = 32) (n k : Nat) (h : n ≤ 32 * k) : ∀ d, (streamL B (k + d)).take n = (streamL B k).take n
  | 0 => rfl
  | d + 1 => by
    rw [← Nat.add_assoc, streamL, List.take_append_of_le_length (by rw [streamL_length hB]; omega), stream_more hB n k h d]
theorem stream_begins {B : Nat → List UInt8} (hB : ∀ k, (B k).length = 32) (n m : Nat) : ((streamL B (blocksOf (n + m))).take (n + m)).take n = (streamL B (blocksOf n)).take n := by
  rw [List.take_take, Nat.min_eq_left (by omega)]
  have e : blocksOf (n + m) = blocksOf n + (blocksOf (n + m) - blocksOf n) := by unfold blocksOf; omega
  rw [e, stream_more hB n _ (by unfold blocksOf; omega)]
theorem stream_size {B : Nat → List UInt8} (hB : ∀ k, (B k).length = 32) (n : Nat) : ((streamL B (blocksOf n)).take n).length = n := by
  rw [List.length_take, streamL_length hB]; unfold blocksOf; omega
theorem ext_take (s : ByteArray) (n : Nat) : s.extract 0 n = ⟨(s.data.toList.take n).toArray⟩ := by
  apply ByteArray.ext
  rw [ByteArray.data_extract]
  apply Array.toList_inj.1
  simp [Array.toList_extract, List.extract_eq_take_drop]

set_option maxRecDepth 100000 in
set_option maxHeartbeats 1000000 in
theorem foldBegins_walk (seed label : ByteArray) (n m : Int) (hs : seed.size < 1125899906842624) (hl : label.size < 1125899906842624) (hn : -9223372036854775808 ≤ n ∧ n ≤ 9223372036854775807) (hm : -9223372036854775808 ≤ m ∧ m ≤ 9223372036854775807) (w : World) (hT : Tabs w) (hS : Starts w) :
    Calls Tryd.prog 3 #[.string seed, .string label, .int .i64 n, .int .i64 m] w fun e w' => e = .returned (.bool true) ∧ Below w.heap.size w w' := by
  have hT0 : Hid (2 < w.heap.size) := hT.size
  go_enter Tryd.func3, Tryd.ntmps3
  by_cases h1 : n < 0
  · go_wp2_with fail
    go_ret
    exact ⟨rfl, Below.refl _ _⟩
  by_cases h2 : m < 0
  · have h1' : 0 ≤ n := by omega
    go_wp2_with fail
    go_ret
    exact ⟨rfl, Below.refl _ _⟩
  by_cases h3 : 65536 < n
  · have h1' : 0 ≤ n := by omega
    have h2' : 0 ≤ m := by omega
    go_wp2_with fail
    go_ret
    exact ⟨rfl, Below.refl _ _⟩
  by_cases h4 : 65536 - n < m
  · have h1' : 0 ≤ n := by omega
    have h2' : 0 ≤ m := by omega
    have h3' : n ≤ 65536 := by omega
    go_wp2_with fail
    go_ret
    exact ⟨rfl, Below.refl _ _⟩
  · obtain ⟨a, rfl⟩ := Int.eq_ofNat_of_zero_le (show 0 ≤ n by omega)
    obtain ⟨b, rfl⟩ := Int.eq_ofNat_of_zero_le (show 0 ≤ m by omega)
    have h3' : (a : Int) ≤ 65536 := by omega
    have h4' : (b : Int) ≤ 65536 - (a : Int) := by omega
    go_wp2_with fail
    refine (stream_any seed label a (by omega) (by omega) (by omega) w hT hS).mono ?_
    rintro e X ⟨rfl, hbX⟩
    have HB : Hid (Below w.heap.size w X) := hbX
    have HC : Hid (Calls Tryd.prog 5 #[.string seed, .string label, .int .i64 ((a : Int) + (b : Int))] X fun e w' => e = .returned (.tuple #[.string ⟨((streamL (blockL seed label) (blocksOf (a + b))).take (a + b)).toArray⟩, .int .i64 0]) ∧ Below X.heap.size X w') := by
      have := stream_any seed label (a + b) (by omega) (by omega) (by omega) X (hT.of_below hbX hT0.out) (hS.of_below hbX hT0.out)
      rwa [Int.natCast_add] at this
    have e1 := stream_size (blockL_length seed label) a
    have e2 := stream_size (blockL_length seed label) (a + b)
    have e3 : Hid (((streamL (blockL seed label) (blocksOf (a + b))).take (a + b)).take a = (streamL (blockL seed label) (blocksOf a)).take a) := stream_begins (blockL_length seed label) a b
    clear hbX
    generalize (streamL (blockL seed label) (blocksOf a)).take a = D at *
    generalize (streamL (blockL seed label) (blocksOf (a + b))).take (a + b) = E at *
    go_wp2_with fail
    refine HC.out.mono ?_
    rintro e Z ⟨rfl, hbZ⟩
    have HZ : Hid (Below w.heap.size w Z) := HB.out.trans (hbZ.mono HB.out.size)
    clear hbZ
    have s1 : (⟨D.toArray⟩ : ByteArray).size = a := by show D.toArray.size = a; simpa using e1
    have s2 : (⟨E.toArray⟩ : ByteArray).size = a + b := by show E.toArray.size = a + b; simpa using e2
    have x1 : (⟨E.toArray⟩ : ByteArray).extract 0 a = ⟨D.toArray⟩ := by rw [ext_take, ← e3.out]
    go_wp2_with fail
    go_ret
    exact ⟨by simp, HZ.out⟩
end Go.Proofs.YtalagjmjpoacmabDoor
