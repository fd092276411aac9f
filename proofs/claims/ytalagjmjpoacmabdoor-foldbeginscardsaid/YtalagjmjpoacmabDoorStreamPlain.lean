/- Plain: the bytes of a stream, block by block. No Go text is walked here. -/
import Derived.Test.YtalagjmjpoacmabDoorParts
set_option linter.unusedSimpArgs false
set_option linter.unusedVariables false
namespace Go.Proofs.YtalagjmjpoacmabDoor
open Go.RowKit

/-- k blocks, one behind the other. -/
def streamL (B : Nat → List UInt8) : Nat → List UInt8
  | 0 => []
  | k + 1 => streamL B k ++ B k
theorem streamL_length {B : Nat → List UInt8} (hB : ∀ k, (B k).length = 32) : ∀ k, (streamL B k).length = 32 * k
  | 0 => rfl
  | k + 1 => by rw [streamL, List.length_append, streamL_length hB k, hB]; omega
/-- What lies in the n bytes when k blocks were laid. -/
def outS (B : Nat → List UInt8) (n k : Nat) : List UInt8 := (streamL B k).take n ++ List.replicate (n - 32 * k) 0
theorem outS_zero (B : Nat → List UInt8) (n : Nat) : outS B n 0 = List.replicate n 0 := by simp [outS, streamL]
theorem outS_length {B : Nat → List UInt8} (hB : ∀ k, (B k).length = 32) (n k : Nat) : (outS B n k).length = n := by
  rw [outS, List.length_append, List.length_take, List.length_replicate, streamL_length hB]; omega
theorem outS_step {B : Nat → List UInt8} (hB : ∀ k, (B k).length = 32) (n k m : Nat) (h : 32 * k < n) (hm : m = min 32 (n - 32 * k)) :
    (outS B n k).take (32 * k) ++ (B k).take m ++ (outS B n k).drop (32 * k + m) = outS B n (k + 1) := by
  have hl := streamL_length hB k
  have e1 : (streamL B k).take n = streamL B k := List.take_of_length_le (by omega)
  rw [outS, outS, e1, List.take_left' hl, ← hl, List.drop_length_add_append, hl, List.drop_replicate, streamL, List.take_append, e1, hl]
  have e2 : (B k).take (n - 32 * k) = (B k).take m := by
    rw [hm]
    by_cases h2 : 32 ≤ n - 32 * k
    · rw [Nat.min_eq_left h2, List.take_of_length_le (by rw [hB]; omega), List.take_of_length_le (by rw [hB]; omega)]
    · rw [Nat.min_eq_right (by omega)]
  rw [e2]
  congr 2
  omega
theorem outS_end {B : Nat → List UInt8} (hB : ∀ k, (B k).length = 32) (n k : Nat) (h : n ≤ 32 * k) : outS B n k = (streamL B k).take n := by
  rw [outS, Nat.sub_eq_zero_of_le h]; simp
/-- The block with number k of a seed and a label. -/
abbrev streamB : ByteArray := ⟨#[115, 116, 114, 101, 97, 109]⟩
def fourB (k : Nat) : ByteArray := ⟨(fourL k).toArray⟩
theorem fourB_size (k : Nat) : (fourB k).size = 4 := rfl
def blockL (seed label : ByteArray) (k : Nat) : List UInt8 := digL (hK 0) (partsL [streamB, seed, label, fourB k])
theorem blockL_length (seed label : ByteArray) (k : Nat) : (blockL seed label k).length = 32 := digL_length _ _
theorem parts4_length (a b c d : ByteArray) : (partsL [a, b, c, d]).length = 16 + a.size + b.size + c.size + d.size := by
  simp only [partsL, List.flatMap_cons, List.flatMap_nil, List.length_append, fourL_length, List.length_nil, ← Lib.size_eq]; omega
/-- How many blocks n bytes take. -/
def blocksOf (n : Nat) : Nat := (n + 31) / 32
end Go.Proofs.YtalagjmjpoacmabDoor
