/- The reference's Of, Plus, two. -/
import Derived.Test.YthdffjboaicopaaNum
set_option linter.unusedSimpArgs false
set_option linter.unusedVariables false
namespace Go.Proofs.Ythdffjboaicopaa
open Go.RowKit Go.Deep Go.PlainAid

/-- i digits of a sum: what is laid, and what goes on. -/
structure Adds (a b : List Nat) (i : Nat) (D : List Nat) (up : Nat) : Prop where
  len : D.length = i
  low : ∀ d ∈ D, d < 65536
  up1 : up ≤ 1
  eq : vl 65536 D + 65536 ^ i * up = vl 65536 (a.take i) + vl 65536 (b.take i)
theorem Adds.step {a b : List Nat} {i : Nat} {D : List Nat} {up : Nat} (h : Adds a b i D up) (ha : ∀ d ∈ a, d < 65536) (hb : ∀ d ∈ b, d < 65536) :
    Adds a b (i + 1) (D ++ [(up + a.getD i 0 + b.getD i 0) % 65536]) ((up + a.getD i 0 + b.getD i 0) / 65536) := by
  have g1 := getD_lt ha i
  have g2 := getD_lt hb i
  have h1 := h.up1
  refine ⟨by simp [h.len], ?_, by omega, ?_⟩
  · intro d hd
    rcases List.mem_append.1 hd with hd | hd
    · exact h.low d hd
    · simp at hd; omega
  · rw [vl_snoc, h.len, vl_take_succ, vl_take_succ]
    have e := h.eq
    have hs : up + a.getD i 0 + b.getD i 0 = (up + a.getD i 0 + b.getD i 0) % 65536 + 65536 * ((up + a.getD i 0 + b.getD i 0) / 65536) := (Nat.mod_add_div _ 65536).symm
    generalize (up + a.getD i 0 + b.getD i 0) % 65536 = r at *
    generalize (up + a.getD i 0 + b.getD i 0) / 65536 = q at *
    generalize a.getD i 0 = x at *
    generalize b.getD i 0 = y at *
    have hp : (65536 : Nat) ^ (i + 1) = 65536 ^ i * 65536 := Nat.pow_succ _ _
    rw [hp]
    have hs2 : 65536 ^ i * (up + x + y) = 65536 ^ i * (r + 65536 * q) := by rw [hs]
    generalize 65536 ^ i = P at *
    grind
theorem vl_take_all {l : List Nat} {i : Nat} (h : l.length ≤ i) : vl 65536 (l.take i) = vl 65536 l := by rw [List.take_of_length_le h]
end Go.Proofs.Ythdffjboaicopaa
