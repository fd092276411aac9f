/- A folder and the text that has gone into it. -/
import Derived.Test.YteomefhjglnghaaDoorFFol
set_option linter.unusedSimpArgs false
set_option linter.unusedVariables false
set_option maxRecDepth 100000
namespace Go.Proofs.YteomefhjglnghaaDoor.F
open Go.RowKit

/-- Bytes with zeros behind, 64 in all. -/
def pad64 (l : List UInt8) : List UInt8 := l ++ List.replicate (64 - l.length) 0
theorem pad64_length (l : List UInt8) (h : l.length ≤ 64) : (pad64 l).length = 64 := by simp [pad64]; omega
/-- The piece of a text with number k. -/
def pieceAt (T : List UInt8) (k : Nat) : List UInt8 := pad64 ((T.drop (64 * k)).take 64)
theorem pieceAt_length (T : List UInt8) (k : Nat) : (pieceAt T k).length = 64 := pad64_length _ (by simp; omega)
/-- The words behind k full pieces. -/
def hashTo (h0 : List UInt32) (T : List UInt8) : Nat → List UInt32
  | 0 => h0
  | k + 1 => pressL (hashTo h0 T k) (wordsL (pieceAt T k)) (64 * (k + 1)) false
theorem hashTo_length (h0 : List UInt32) (hh : h0.length = 8) (T : List UInt8) : ∀ k, (hashTo h0 T k).length = 8
  | 0 => hh
  | k + 1 => by rw [hashTo, pressL_length, hashTo_length h0 hh T k]
theorem pieceAt_more (T b : List UInt8) (k : Nat) (h : 64 * (k + 1) ≤ T.length) : pieceAt (T ++ b) k = pieceAt T k := by
  unfold pieceAt
  rw [List.drop_append_of_le_length (by omega), List.take_append_of_le_length (by simp; omega)]
theorem hashTo_more (h0 : List UInt32) (T b : List UInt8) : ∀ k, 64 * k ≤ T.length → hashTo h0 (T ++ b) k = hashTo h0 T k
  | 0, _ => rfl
  | k + 1, h => by rw [hashTo, hashTo, hashTo_more h0 T b k (by omega), pieceAt_more T b k h]
/-- A folder holds a text. -/
structure Rep (h0 : List UInt32) (T : List UInt8) (f : Fol) : Prop where
  h : f.h = hashTo h0 T ((T.length - 1) / 64)
  p : f.p = pieceAt T ((T.length - 1) / 64)
  held : f.held = T.length - 64 * ((T.length - 1) / 64)
  n : f.n = T.length
theorem Rep.ok {h0 : List UInt32} {T : List UInt8} {f : Fol} (r : Rep h0 T f) (hh : h0.length = 8) (hn : T.length < 18446744073709551616) : f.ok :=
  ⟨by rw [r.h]; exact hashTo_length h0 hh T _, by rw [r.p]; exact pieceAt_length _ _, by rw [r.held]; omega, by rw [r.n]; exact hn⟩
/-- What comes into the piece. -/
def putF (f : Fol) (c : List UInt8) : Fol := { h := f.h, p := f.p.take f.held ++ c ++ f.p.drop (f.held + c.length), held := f.held + c.length, n := f.n + c.length }
theorem putF_length {f : Fol} (ok : f.ok) (c : List UInt8) (hc : f.held + c.length ≤ 64) : (putF f c).p.length = 64 := by
  have := ok.2.1
  have := ok.2.2.1
  simp [putF]; omega
theorem pad_put (l c : List UInt8) (h : l.length + c.length ≤ 64) : (pad64 l).take l.length ++ c ++ (pad64 l).drop (l.length + c.length) = pad64 (l ++ c) := by
  unfold pad64
  rw [List.take_left' rfl, List.drop_append, List.drop_of_length_le (by omega)]
  simp
  omega
theorem Rep.put {h0 : List UInt32} {T : List UInt8} {f : Fol} (r : Rep h0 T f) (c : List UInt8) (hl : f.held < 64) (hc : f.held + c.length ≤ 64) : Rep h0 (T ++ c) (putF f c) := by
  have e1 := r.held
  have hk : ((T ++ c).length - 1) / 64 = (T.length - 1) / 64 := by simp; omega
  generalize hK : (T.length - 1) / 64 = k at *
  have hT : 64 * k ≤ T.length := by omega
  refine ⟨?_, ?_, ?_, ?_⟩
  · rw [hk]; show f.h = _; rw [r.h, hK, hashTo_more h0 T c k hT]
  · rw [hk]
    show f.p.take f.held ++ c ++ f.p.drop (f.held + c.length) = _
    have e2 : (T.drop (64 * k)).take 64 = T.drop (64 * k) := List.take_of_length_le (by simp; omega)
    have e3 : f.held = (T.drop (64 * k)).length := by rw [e1, List.length_drop]
    rw [r.p, hK, pieceAt, e2, e3, pad_put _ _ (by rw [← e3]; exact hc), pieceAt, List.drop_append_of_le_length hT, List.take_of_length_le (by simp; omega)]
  · rw [hk]; show f.held + c.length = _; rw [e1]; simp; omega
  · show f.n + c.length = _; rw [r.n]; simp
theorem Rep.full {h0 : List UInt32} {T : List UInt8} {f : Fol} (r : Rep h0 T f) (c : List UInt8) (hl : f.held = 64) (hc : c.length ≤ 64) (hp : 0 < c.length) : Rep h0 (T ++ c) (putF (pressF f false) c) := by
  have e1 := r.held
  have e4 := r.n
  have hk : ((T ++ c).length - 1) / 64 = (T.length - 1) / 64 + 1 := by simp; omega
  generalize hK : (T.length - 1) / 64 = k at *
  have hT : T.length = 64 * (k + 1) := by omega
  refine ⟨?_, ?_, ?_, ?_⟩
  · rw [hk, hashTo_more h0 T c (k + 1) (by omega)]
    show pressL f.h (wordsL f.p) f.n false = pressL (hashTo h0 T k) (wordsL (pieceAt T k)) (64 * (k + 1)) false
    rw [r.h, r.p, hK, e4, hT]
  · rw [hk]
    show (List.replicate 64 0).take 0 ++ c ++ (List.replicate 64 0).drop (0 + c.length) = _
    have e5 : (T ++ c).drop (64 * (k + 1)) = c := by rw [← hT]; exact List.drop_left' rfl
    rw [pieceAt, e5, List.take_of_length_le hc, pad64, List.drop_replicate, List.take_zero, List.nil_append, Nat.zero_add]
  · rw [hk]; show 0 + c.length = _; simp [hT]
  · show f.n + c.length = _; rw [e4]; simp
end Go.Proofs.YteomefhjglnghaaDoor.F
